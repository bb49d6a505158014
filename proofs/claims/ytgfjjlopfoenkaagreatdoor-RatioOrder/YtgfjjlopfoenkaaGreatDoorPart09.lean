import Derived.Test.YtgfjjlopfoenkaaGreatDoorPart08
import Derived.Test.YtgfjjlopfoenkaaGreatDoorPart07
import Derived.Test.YtgfjjlopfoenkaaGreatDoorPart01
import Derived.Lib.ParseIntB
import Derived.Laws.Strings

namespace Go.Proofs.YtgfjjlopfoenkaaGreatDoor.L
open Go.RowKit Tl

/-- x times B is added to X0 from place i on: k limbs of it. -/
structure Mu (X0 B : List Int) (i : Nat) (x : Int) (k : Nat) (c : Int) (X : List Int) : Prop where
  len : X.length = X0.length
  wd : Wd X
  up : ∀ j, i + k ≤ j → nth X j = nth X0 j
  c0 : 0 ≤ c
  c1 : c < 1073741824
  eq : val X + pw (i + k) * c = val X0 + x * (pw i * val (B.take k))
theorem Mu.start {X0 B : List Int} {i : Nat} {x : Int} (h : Wd X0) : Mu X0 B i x 0 0 X0 := ⟨rfl, h, fun _ _ => rfl, by omega, by omega, by simp [val]⟩
theorem mu_bd {a b y c : Int} (a0 : 0 ≤ a) (a1 : a < 1073741824) (b0 : 0 ≤ b) (b1 : b < 1073741824) (y0 : 0 ≤ y) (y1 : y < 1073741824) (c0 : 0 ≤ c) (c1 : c < 1073741824) : 0 ≤ a * b ∧ a * b ≤ 1152921502459363329 ∧ c + (y + a * b) < 1152921504606846976 := by
  have h0 := Int.mul_nonneg a0 b0
  have h1 := Int.mul_le_mul (show a ≤ 1073741823 by omega) (show b ≤ 1073741823 by omega) b0 (by decide)
  omega
theorem Mu.next {X0 B : List Int} {i : Nat} {x : Int} {k : Nat} {c S : Int} {X : List Int} (h : Mu X0 B i x k c X) (hB : Wd B) (x0 : 0 ≤ x) (x1 : x < 1073741824) (hk : k < B.length) (hl : i + k < X0.length) (hS : S = c + (nth X (i + k) + x * nth B k)) : Mu X0 B i x (k + 1) (S / 1073741824) (X.set (i + k) (S % 1073741824)) := by
  have hlen := h.len
  have b := nth_bd h.wd (i + k)
  have b2 := nth_bd hB k
  have bd := mu_bd x0 x1 b2.1 b2.2 b.1 b.2 h.c0 h.c1
  have c0 := h.c0
  refine ⟨by simp [hlen], h.wd.set _ (by omega) (by omega), ?_, by omega, by omega, ?_⟩
  · intro j hj
    rw [nth_set_other _ _ _ _ (by omega)]
    exact h.up j (by omega)
  · have e := h.eq
    have es : S = S % 1073741824 + 1073741824 * (S / 1073741824) := by omega
    rw [val_set (by omega), val_at B k hk, show i + (k + 1) = i + k + 1 from rfl]
    have a4 : pw (i + k) = pw i * pw k := pw_add i k
    generalize S % 1073741824 = p at *
    generalize S / 1073741824 = q at *
    simp only [pw]
    rw [a4] at e ⊢
    grind
/-- The first i limbs of A times B. -/
structure Mo (A B : List Int) (i : Nat) (X : List Int) : Prop where
  len : X.length = A.length + B.length
  wd : Wd X
  zero : ∀ j, i + B.length ≤ j → nth X j = 0
  eq : val X = val (A.take i) * val B
theorem Mo.start (A B : List Int) : Mo A B 0 (List.replicate (A.length + B.length) 0) := ⟨by simp, wd_zero _, fun j _ => nth_replicate _ _, by rw [val_zeros]; simp [val]⟩
theorem Mo.next {A B X0 X : List Int} {i : Nat} {c : Int} (h : Mo A B i X0) (m : Mu X0 B i (nth A i) B.length c X) (hi : i < A.length) : nth X (i + B.length) = 0 ∧ Mo A B (i + 1) (X.set (i + B.length) c) := by
  have hlen := m.len
  have hl := h.len
  have z : nth X (i + B.length) = 0 := by rw [m.up _ (Nat.le_refl _)]; exact h.zero _ (Nat.le_refl _)
  refine ⟨z, ⟨by simp; omega, m.wd.set _ m.c0 m.c1, ?_, ?_⟩⟩
  · intro j hj
    rw [nth_set_other _ _ _ _ (by omega), m.up j (by omega)]
    exact h.zero j (by omega)
  · have e := m.eq
    have e2 := h.eq
    rw [List.take_length] at e
    rw [val_set (by omega), z, val_at A i hi]
    grind
theorem mul_none_l (a1 : Option Addr) (c1 : Nat) (v : Value) (w : World) : Calls Tryz.prog 104 #[.slice a1 0 c1, v] w fun e w' => e = .returned (.slice none 0 0) ∧ w' = w := by
  go_enter Tryz.func104, Tryz.ntmps104
  go_wp2
  go_ret
  exact ⟨rfl, rfl⟩
theorem mul_none_r (a1 a2 : Option Addr) (n1 c1 c2 : Nat) (h : ((n1 : Int) == 0) = false) (w : World) : Calls Tryz.prog 104 #[.slice a1 n1 c1, .slice a2 0 c2] w fun e w' => e = .returned (.slice none 0 0) ∧ w' = w := by
  go_enter Tryz.func104, Tryz.ntmps104
  go_wp2
  go_ret
  exact ⟨rfl, rfl⟩
set_option maxHeartbeats 3200000 in
set_option maxRecDepth 100000 in
theorem mul_some (a1 a2 : Option Addr) (c1 c2 : Nat) (xs ys : List Int) (w : World) (hx : Wd xs) (hy : Wd ys) (g1 : 0 < xs.length → ∃ b o, a1 = some ⟨b, o, none⟩ ∧ Cells w b o xs) (g2 : 0 < ys.length → ∃ b o, a2 = some ⟨b, o, none⟩ ∧ Cells w b o ys) (p1 : 0 < xs.length) (p2 : 0 < ys.length) (l1 : xs.length ≤ 274877906944) (l2 : ys.length ≤ 274877906944) :
    Calls Tryz.prog 104 #[.slice a1 xs.length c1, .slice a2 ys.length c2] w fun e w' => ∃ v zs, e = .returned v ∧ Rd w' v zs ∧ Nm zs ∧ val zs = val xs * val ys ∧ Below w.heap.size w w' := by
  obtain ⟨b1, o1, rfl, q1⟩ := g1 p1
  obtain ⟨b2, o2, rfl, q2⟩ := g2 p2
  have hs1 : Hid (∀ w', Below w.heap.size w w' → Cells w' b1 o1 xs) := fun w' h => q1.grow h
  have hs2 : Hid (∀ w', Below w.heap.size w w' → Cells w' b2 o2 ys) := fun w' h => q2.grow h
  have z1 : ((xs.length : Int) == 0) = false := by rw [beq_eq_false_iff_ne]; omega
  have z2 : ((ys.length : Int) == 0) = false := by rw [beq_eq_false_iff_ne]; omega
  clear q1 q2 g1 g2
  obtain ⟨N, hN⟩ : ∃ N, N = xs.length + ys.length := ⟨_, rfl⟩
  have HN : Hid (N = xs.length + ys.length) := hN
  have nb : N ≤ 549755813888 := by omega
  have hw0 : IntKind.i64.wrap ((xs.length : Int) + ys.length) = (N : Int) := by rw [hN, wrap_self _ (by omega) (by omega)]; simp
  clear hN
  go_enter Tryz.func104, Tryz.ntmps104
  go_wp2_with (first
    | (at_make; refine wpList_make_words rfl _ _ rfl N _ _ rfl rfl rfl rfl (by omega) ?_; intro w1 k1 k2 k3 k4)
    | fail)
  go_loopw [6] (fun i wr => ∃ (k : Nat) (X : List Int), k ≤ xs.length ∧ i = .int .i64 k ∧ Mo xs ys k X ∧ Cells wr w.heap.size 0 X ∧ Wr w.heap.size 0 N w1 wr) (fun i _ => xs.length - (intOf i).toNat)
  case atStart => exact ⟨0, _, Nat.zero_le _, rfl, Mo.start xs ys, by rw [← HN.out]; exact k1, Wr.refl _ _ _ _⟩
  case round =>
    obtain ⟨i, X, hi, rfl, hMo, hc, hwr⟩ := hrel
    have hlX : Hid (X.length = xs.length + ys.length) := hMo.len
    by_cases hlt : i < xs.length
    · have HMo : Hid (Mo xs ys i X) := hMo
      clear hMo
      go_wp2_with fail
      go_loopw [7, 8] (fun c k wr => ∃ (k' : Nat) (cy : Int) (Y : List Int), k' ≤ ys.length ∧ c = .int .i64 cy ∧ k = .int .i64 k' ∧ Mu X ys i (nth xs i) k' cy Y ∧ Cells wr w.heap.size 0 Y ∧ Wr w.heap.size 0 N w1 wr) (fun _ k _ => ys.length - (intOf k).toNat)
      case atStart => exact ⟨0, 0, X, Nat.zero_le _, rfl, rfl, Mu.start HMo.out.wd, hc, hwr⟩
      case round =>
        clear hc hwr
        obtain ⟨k, cy, Y, hk, rfl, rfl, hMu, hc, hwr⟩ := hrel
        have hb := k3.trans (hwr.below (B := w.heap.size) (Nat.le_refl _) (by omega))
        have lY : Hid (Y.length = xs.length + ys.length) := hMu.len.trans hlX.out
        by_cases hlt2 : k < ys.length
        · have kx := hc.at (i := i + k) (by rw [lY.out]; omega)
          have kf := ((k2.wr hwr).free 0 N) (i + k) (by rw [HN.out]; omega)
          rw [Nat.zero_add] at kx kf
          have d1 := (hs1.out _ hb).at (i := i) hlt
          have d2 := (hs2.out _ hb).at (i := k) hlt2
          have y1 : (0 : Int) ≤ (i : Int) + k := by omega
          have y2 : ((i : Int) + k).toNat = i + k := by omega
          have y3 : IntKind.i64.wrap ((i : Int) + k) = (i : Int) + k := wrap_self _ (by omega) (by omega)
          have y4 : (i : Int) + k < N := by rw [HN.out]; omega
          have ba := nth_bd hx i
          have bb := nth_bd hy k
          have bY := nth_bd hMu.wd (i + k)
          obtain ⟨S, hS⟩ : ∃ S, cy + (nth Y (i + k) + nth xs i * nth ys k) = S := ⟨_, rfl⟩
          have NX : Hid (Mu X ys i (nth xs i) (k + 1) (S / 1073741824) (Y.set (i + k) (S % 1073741824))) := hMu.next hy ba.1 ba.2 hlt2 (by rw [hlX.out]; omega) hS.symm
          have bd := mu_bd ba.1 ba.2 bb.1 bb.2 bY.1 bY.2 hMu.c0 hMu.c1
          have c0 := hMu.c0
          generalize nth Y (i + k) = y at *
          generalize nth xs i = a at *
          generalize nth ys k = b at *
          have e1 : IntKind.i64.wrap (a * b) = a * b := wrap_self _ (by omega) (by omega)
          have e2 : IntKind.i64.wrap (y + a * b) = y + a * b := wrap_self _ (by omega) (by omega)
          have e3 : IntKind.i64.wrap (cy + (y + a * b)) = S := by rw [hS]; exact wrap_self _ (by omega) (by omega)
          have s0 : 0 ≤ S := by omega
          have s1 : S < 1152921504606846976 := by omega
          have e4 : S.tdiv 1073741824 = S / 1073741824 := Int.tdiv_eq_ediv_of_nonneg s0
          have e5 : S.tmod 1073741824 = S % 1073741824 := Int.tmod_eq_emod_of_nonneg s0
          have i6 : Hid (k + 1 ≤ ys.length) := hlt2
          have LN : Hid (∀ m, Cells ((wr.drewN m).setCell ⟨w.heap.size, i + k, none⟩ (.int .i64 (S % 1073741824))) w.heap.size 0 (Y.set (i + k) (S % 1073741824)) ∧ Wr w.heap.size 0 N w1 ((wr.drewN m).setCell ⟨w.heap.size, i + k, none⟩ (.int .i64 (S % 1073741824)))) := fun m => ⟨by have := Cells.set (w := wr.drewN m) hc (i + k) (by rw [lY.out]; omega) (S % 1073741824); simpa using this, (hwr.drewN m).setCell (i + k) (by rw [HN.out]; omega) _⟩
          clear hS bd ba bb bY hMu
          go_wp2_with fail
          go_quiet (fail)
          go_wp2
          go_roundw
          case rel => exact ⟨k + 1, _, _, i6.out, rfl, by go_num, NX.out, (LN.out _).1, (LN.out _).2⟩
          case measure => simp [intOf]; omega
        · have ek : k = ys.length := by omega
          subst ek
          obtain ⟨z, R⟩ := HMo.out.next hMu hlt
          have kx := hc.at (i := i + ys.length) (by rw [lY.out]; omega)
          have kf := ((k2.wr hwr).free 0 N) (i + ys.length) (by rw [HN.out]; omega)
          rw [Nat.zero_add] at kx kf
          rw [z] at kx
          have HR : Hid (Mo xs ys (i + 1) (Y.set (i + ys.length) cy)) := R
          have y1 : (0 : Int) ≤ (i : Int) + ys.length := by omega
          have y2 : ((i : Int) + ys.length).toNat = i + ys.length := by omega
          have y3 : IntKind.i64.wrap ((i : Int) + ys.length) = (i : Int) + ys.length := wrap_self _ (by omega) (by omega)
          have y4 : (i : Int) + ys.length < N := by rw [HN.out]; omega
          have e1 : IntKind.i64.wrap cy = cy := wrap_self _ (by have := hMu.c0; omega) (by have := hMu.c1; omega)
          have hlt3 : i + 1 ≤ xs.length := hlt
          have LN : Hid (Cells (wr.setCell ⟨w.heap.size, i + ys.length, none⟩ (.int .i64 cy)) w.heap.size 0 (Y.set (i + ys.length) cy) ∧ Wr w.heap.size 0 N w1 (wr.setCell ⟨w.heap.size, i + ys.length, none⟩ (.int .i64 cy))) := ⟨by have := Cells.set hc (i + ys.length) (by rw [lY.out]; omega) cy; simpa using this, hwr.setCell (i + ys.length) (by rw [HN.out]; omega) _⟩
          clear R hMu z
          go_wp2
          go_roundw
          case rel => exact ⟨i + 1, _, hlt3, by go_num, HR.out, LN.out.1, LN.out.2⟩
          case measure => simp [intOf]; omega
    · have ek : i = xs.length := by omega
      subst ek
      have hb := k3.trans (hwr.below (B := w.heap.size) (Nat.le_refl _) (by omega))
      have Rv : Hid (val X = val xs * val ys) := by
        have e := hMo.eq
        rw [List.take_length] at e; exact e
      have wX := hMo.wd
      have lX2 : Hid (N = X.length) := by show N = X.length; rw [HN.out, hlX.out]
      clear hMo
      go_wp2_with fail
      refine (norm_rd _ _ _ X wr lX2.out wX (by have := lX2.out; omega) (by omega) (fun _ => ⟨_, _, rfl, hc⟩)).mono ?_
      rintro e w' ⟨n, zs, rfl, hrd, hnm, hvz, rfl⟩
      have hvz' : Hid (val zs = val xs * val ys) := hvz.trans Rv.out
      clear hvz
      go_wp2
      go_ret
      exact ⟨_, zs, rfl, hrd, hnm, hvz'.out, hb⟩
/-- (Nat).Mul of the reference. -/
theorem Mul_any (v1 v2 : Value) (xs ys : List Int) (w : World) (h1 : Rd w v1 xs) (h2 : Rd w v2 ys) (l1 : xs.length ≤ 274877906944) (l2 : ys.length ≤ 274877906944) :
    Calls Tryz.prog 104 #[v1, v2] w fun e w' => ∃ v zs, e = .returned v ∧ Rd w' v zs ∧ Nm zs ∧ val zs = val xs * val ys ∧ Below w.heap.size w w' := by
  obtain ⟨hx, a1, c1, rfl, _, _, g1⟩ := h1
  obtain ⟨hy, a2, c2, rfl, _, _, g2⟩ := h2
  by_cases p1 : 0 < xs.length
  · by_cases p2 : 0 < ys.length
    · exact mul_some a1 a2 c1 c2 xs ys w hx hy g1 g2 p1 p2 l1 l2
    · have e0 : ys = [] := List.eq_nil_of_length_eq_zero (by omega)
      subst e0
      refine (mul_none_r a1 a2 xs.length c1 c2 (by rw [beq_eq_false_iff_ne]; omega) w).mono ?_
      rintro e w' ⟨rfl, rfl⟩
      exact ⟨_, [], rfl, rd_nil _, Or.inl rfl, by simp [val], Below.refl _ _⟩
  · have e0 : xs = [] := List.eq_nil_of_length_eq_zero (by omega)
    subst e0
    refine (mul_none_l a1 c1 _ w).mono ?_
    rintro e w' ⟨rfl, rfl⟩
    exact ⟨_, [], rfl, rd_nil _, Or.inl rfl, by simp [val], Below.refl _ _⟩
end Go.Proofs.YtgfjjlopfoenkaaGreatDoor.L

namespace Go.Proofs.YtgfjjlopfoenkaaGreatDoor.L
open Go.RowKit Tl

theorem rd_form {w : World} {v : Value} {xs : List Int} (h : Rd w v xs) : ∃ a c, v = .slice a xs.length c := by obtain ⟨_, a, c, e, _⟩ := h; exact ⟨a, c, e⟩
/-- The number of limbs, by the size. -/
theorem len_of_lt {xs : List Int} {K : Nat} (h : Wd xs) (n : Nm xs) (hv : val xs < pw K) : xs.length ≤ K := by
  by_cases c : xs.length ≤ K
  · exact c
  · have h1 := val_low h n (by intro e; rw [e] at c; simp at c)
    have h2 := pw_mono (show K ≤ xs.length - 1 by omega)
    omega
theorem mul_len {A B Z : List Int} (ha : Wd A) (hb : Wd B) (hz : Wd Z) (nz : Nm Z) (e : val Z = val A * val B) : Z.length ≤ A.length + B.length := by
  refine len_of_lt hz nz ?_
  rw [e, pw_add]
  have a1 := val_lt ha
  have b1 := val_lt hb
  have a0 := val_nonneg ha
  have b0 := val_nonneg hb
  have p := pw_pos A.length
  have h1 : val A * val B ≤ pw A.length * val B := Int.mul_le_mul_of_nonneg_right (by omega) b0
  have h2 : pw A.length * val B < pw A.length * pw B.length := Int.mul_lt_mul_of_pos_left b1 p
  omega
theorem add_len {A B Z : List Int} {K : Nat} (ha : Wd A) (hb : Wd B) (hz : Wd Z) (nz : Nm Z) (e : val Z = val A + val B) (la : A.length ≤ K) (lb : B.length ≤ K) : Z.length ≤ K + 1 := by
  refine len_of_lt hz nz ?_
  have a1 := val_lt ha
  have b1 := val_lt hb
  have m1 := pw_mono la
  have m2 := pw_mono lb
  have p := pw_pos K
  rw [e]
  simp only [pw]
  omega
theorem sub_len {A B Z : List Int} {K : Nat} (ha : Wd A) (hb : Wd B) (hz : Wd Z) (nz : Nm Z) (e : val Z = val A - val B) (la : A.length ≤ K) : Z.length ≤ K := by
  refine len_of_lt hz nz ?_
  have a1 := val_lt ha
  have b0 := val_nonneg hb
  have m1 := pw_mono la
  omega
end Go.Proofs.YtgfjjlopfoenkaaGreatDoor.L

namespace Dc
open Go Go.Lib
/-- A byte that is a decimal digit. -/
def Dg (b : UInt8) : Prop := 48 ≤ b.toNat ∧ b.toNat ≤ 57
theorem num_take (l : List UInt8) (k : Nat) (h : k < l.length) : num (l.take (k + 1)) = num (l.take k) * 10 + ((l[k]).toNat - 48) := by
  rw [List.take_add_one, num_append]
  simp [List.getElem?_eq_getElem h, num_single]
theorem num_lt_take (l : List UInt8) (h : ∀ c ∈ l, Dg c) (k : Nat) (hk : k ≤ l.length) : num (l.take k) < 10 ^ k := by
  induction k with
  | zero => simp [num]
  | succ k ih =>
    have a := ih (by omega)
    have b := h l[k] (List.getElem_mem _)
    unfold Dg at b
    rw [num_take l k (by omega), Nat.pow_succ]
    omega
theorem num_lt (l : List UInt8) (h : ∀ c ∈ l, Dg c) : num l < 10 ^ l.length := by
  have := num_lt_take l h l.length (Nat.le_refl _)
  rwa [List.take_length] at this
theorem at_list (s : ByteArray) (k : Nat) (h : k < s.size) : s[k] = s.data.toList[k]'(by simpa using h) := rfl
theorem num_cons (c : UInt8) (r : List UInt8) : num (c :: r) = (c.toNat - 48) * 10 ^ r.length + num r := by
  have := num_append [c] r
  rw [num_single] at this
  exact this
/-- strconv.ParseUint of at most nineteen digits. -/
theorem parse19 (l : List UInt8) (h : ∀ c ∈ l, Dg c) (acc k : Nat) (ha : acc < 10 ^ k) (hk : k + l.length ≤ 19) : Go.Lib.parseUintM (2 ^ 64 - 1) acc l = .ok (acc * 10 ^ l.length + num l) := by
  induction l generalizing acc k with
  | nil => simp [Go.Lib.parseUintM, num]
  | cons c r ih =>
    have hc := h c (by simp)
    unfold Dg at hc
    rw [List.length_cons] at hk
    have p : 10 ^ k ≤ 10 ^ 18 := Nat.pow_le_pow_right (by decide) (by omega)
    have e18 : (10 : Nat) ^ 18 = 1000000000000000000 := by decide
    have e64 : (2 : Nat) ^ 64 - 1 = 18446744073709551615 := by decide
    have step := ih (fun c hc => h c (by simp [hc])) (acc * 10 + (c.toNat - 48)) (k + 1) (by rw [Nat.pow_succ]; omega) (by omega)
    rw [Go.Lib.parseUintM, if_pos hc, if_neg (by omega), if_neg (by rw [e64]; omega), step, num_cons, List.length_cons, Nat.pow_succ]
    congr 1
    grind
theorem parse19B (l : List UInt8) (h : ∀ c ∈ l, Dg c) (ne : l ≠ []) (hk : l.length ≤ 19) : Go.Lib.parseUintB 64 l = .ok (num l) := by
  unfold Go.Lib.parseUintB
  rw [if_neg ne, parse19 l h 0 0 (by decide) (by omega)]
  simp
end Dc

namespace Go.Proofs.YtgfjjlopfoenkaaGreatDoor.L
open Go.RowKit Tl Go.Lib

theorem ten_pw (n : Nat) : ((10 ^ n : Nat) : Int) ≤ pw n := by
  induction n with
  | zero => decide
  | succ n ih =>
    rw [Nat.pow_succ]
    simp only [pw]
    omega
/-- Where the inner loop of Read stands: the number of j digits from a on. -/
def Rs (l : List UInt8) (a j : Nat) (v u : Int) : Prop := v = (Dc.num ((l.drop a).take j) : Int) ∧ u = ((10 ^ j : Nat) : Int)
theorem Rs.next {l : List UInt8} {a j : Nat} {v u : Int} (h : Rs l a j v u) (hj : a + j < l.length) : Rs l a (j + 1) (v * 10 + (((l[a + j]).toNat - 48 : Nat) : Int)) (u * 10) := by
  obtain ⟨rfl, rfl⟩ := h
  refine ⟨?_, by rw [Nat.pow_succ]; simp⟩
  rw [Dc.num_take _ _ (by rw [List.length_drop]; omega)]
  simp
theorem Rs.bd {l : List UInt8} {a j : Nat} {v u : Int} (h : Rs l a j v u) (hd : ∀ c ∈ l, Dc.Dg c) (hj : a + j ≤ l.length) (h9 : j ≤ 9) : 0 ≤ v ∧ v < 1000000000 ∧ 0 < u ∧ u ≤ 1000000000 := by
  obtain ⟨rfl, rfl⟩ := h
  have a1 := Dc.num_lt ((l.drop a).take j) (fun c hc => hd c (List.mem_of_mem_drop (List.mem_of_mem_take hc)))
  rw [List.length_take, List.length_drop, Nat.min_eq_left (by omega)] at a1
  have b1 : 10 ^ j ≤ 10 ^ 9 := Nat.pow_le_pow_right (by decide) h9
  have b2 : 0 < 10 ^ j := Nat.pow_pos (by decide)
  omega

set_option maxHeartbeats 3200000 in
set_option maxRecDepth 100000 in
/-- Read of the reference: the number of decimal digits. -/
theorem BRead_any (s : ByteArray) (w : World) (hs : s.size ≤ 1000000000) (hd : ∀ c ∈ s.data.toList, Dc.Dg c) :
    Calls Tryz.prog 87 #[.string s] w fun e w' => ∃ v zs, e = .returned v ∧ Rd w' v zs ∧ Nm zs ∧ val zs = (Dc.num s.data.toList : Int) ∧ zs.length ≤ s.size ∧ Below w.heap.size w w' := by
  have hl : Hid (s.data.toList.length = s.size) := by show _ = _; simp
  have HD : Hid (∀ c ∈ s.data.toList, Dc.Dg c) := hd
  clear hd
  go_enter Tryz.func87, Tryz.ntmps87
  go_wp2_with fail
  go_loopw [3, 4] (fun o p wr => ∃ (a : Nat) (xs : List Int), a ≤ s.size ∧ p = .int .i64 a ∧ Rd wr o xs ∧ Nm xs ∧ val xs = (Dc.num (s.data.toList.take a) : Int) ∧ xs.length ≤ a ∧ Below w.heap.size w wr) (fun _ p _ => s.size - (intOf p).toNat)
  case atStart => exact ⟨0, [], by omega, rfl, rd_nil _, Or.inl rfl, by simp [val, Dc.num], by simp, Below.refl _ _⟩
  case round =>
    obtain ⟨a, xs, ha, rfl, hr, hn, hv, hxl, hb⟩ := hrel
    have HV : Hid (val xs = (Dc.num (s.data.toList.take a) : Int)) := hv
    clear hv
    have hsz := hb.size
    by_cases hlt : a < s.size
    · obtain ⟨n, hn9⟩ : ∃ n : Nat, min 9 (s.size - a) = n := ⟨_, rfl⟩
      have hm : (if (s.size : Int) - (a : Int) < 9 then (s.size : Int) - (a : Int) else 9) = (n : Int) := by split <;> omega
      have n1 : n ≤ 9 := by omega
      have n2 : a + n ≤ s.size := by omega
      have n3 : 0 < n := by omega
      clear hn9
      go_wp2_with fail
      go_loop [6, 7, 8] (fun v u i => ∃ (j : Nat) (x y : Int), j ≤ n ∧ i = .int .i64 ((a : Int) + j) ∧ v = .int .i64 x ∧ u = .int .i64 y ∧ Rs s.data.toList a j x y) (fun _ _ i => a + n - (intOf i).toNat)
      case atStart => exact ⟨0, 0, 1, by omega, by simp, rfl, rfl, by simp [Dc.num], by simp⟩
      case round =>
        obtain ⟨j, x, y, hj, rfl, rfl, rfl, S⟩ := hrel
        have HS : Hid (Rs s.data.toList a j x y) := S
        obtain ⟨x0, x1, y0, y1⟩ := S.bd HD.out (by rw [hl.out]; omega) (by omega)
        clear S
        by_cases hjn : j < n
        · have hk : a + j < s.size := by omega
          have NX : Hid _ := HS.out.next (by rw [hl.out]; omega)
          have dg := HD.out s[a + j] (List.getElem_mem _)
          unfold Dc.Dg at dg
          have hc : Hid (((s[a + j].toNat : Int) - 48) = (((s.data.toList[a + j]'(by rw [hl.out]; omega)).toNat - 48 : Nat) : Int)) := by
            show _ = _
            have : s.data.toList[a + j]'(by rw [hl.out]; omega) = s[a + j] := rfl
            rw [this]
            omega
          have ei : ((a : Int) + j).toNat = a + j := by omega
          have ei0 : (0 : Int) ≤ (a : Int) + j := by omega
          have ei1 : (a : Int) + j < s.size := by omega
          have wc : IntKind.u8.wrap ((s[a + j].toNat : Int) - 48) = (s[a + j].toNat : Int) - 48 := by simp [IntKind.wrap, IntKind.bits, IntKind.signed]; omega
          go_wp2
          go_round
          case rel => exact ⟨j + 1, x * 10 + ((s[a + j].toNat : Int) - 48), y * 10, by omega, by go_num, rfl, rfl, by rw [hc.out]; exact NX.out⟩
          case measure => simp [intOf]; omega
        · obtain rfl : j = n := by omega
          have hnum : Hid (Dc.num (s.data.toList.take (a + j)) = Dc.num (s.data.toList.take a) * 10 ^ j + Dc.num ((s.data.toList.drop a).take j)) := by
            show _ = _
            rw [List.take_add, Dc.num_append, List.length_take, List.length_drop, hl.out, Nat.min_eq_left (by omega)]
          have p1 : pw 1 = 1073741824 := by decide
          have P1 : Hid (pw 1 = 1073741824) := p1
          clear p1
          go_wp2_with (first
            | (go_at_call 84; ((with_reducible refine (NatOf_any y _ (by omega) (by omega)).mono ?_); rintro e w2 ⟨r2, zs2, rfl, hz2, nz2, vz2, b2⟩; have l2 : zs2.length ≤ 1 := len_of_lt hz2.1 nz2 (by rw [P1.out, vz2]; omega); have V2 : Hid (val zs2 = y) := vz2; clear vz2; have hr2 := hr.grow b2))
            | (go_at_call 84; ((with_reducible refine (NatOf_any x _ (by omega) (by omega)).mono ?_); rintro e w4 ⟨r4, zs4, rfl, hz4, nz4, vz4, b4⟩; have l4 : zs4.length ≤ 1 := len_of_lt hz4.1 nz4 (by rw [P1.out, vz4]; omega); have V4 : Hid (val zs4 = x) := vz4; clear vz4; have hz3' := hz3.grow b4))
            | (go_at_call 104; ((with_reducible refine (Mul_any _ _ xs zs2 _ hr2 hz2 (by omega) (by omega)).mono ?_); rintro e w3 ⟨r3, zs3, rfl, hz3, nz3, vz3, b3⟩; have l3 : zs3.length ≤ xs.length + zs2.length := mul_len hr2.1 hz2.1 hz3.1 nz3 vz3; have V3 : Hid (val zs3 = val xs * val zs2) := vz3; clear vz3))
            | (go_at_call 142; ((with_reducible refine (Add_any _ _ zs3 zs4 _ hz3' hz4 (by omega) (by omega)).mono ?_); rintro e w5 ⟨r5, zs5, rfl, hz5, nz5, vz5, b5⟩; have V5 : Hid (val zs5 = val zs3 + val zs4) := vz5; clear vz5)))
          go_roundw
          case rel =>
            have ev : val zs5 = (Dc.num (s.data.toList.take (a + j)) : Int) := by
              rw [V5.out, V4.out, V3.out, V2.out, HV.out, hnum.out, HS.out.1, HS.out.2]
              simp
            have lt := Dc.num_lt_take s.data.toList HD.out (a + j) (by rw [hl.out]; omega)
            have tp := ten_pw (a + j)
            refine ⟨a + j, zs5, by omega, by go_num, hz5, nz5, ev, len_of_lt hz5.1 nz5 (by rw [ev]; omega), ?_⟩
            exact hb.trans (((b2.trans (b3.mono b2.size)).trans (b4.mono (Nat.le_trans b2.size b3.size))).trans (b5.mono (Nat.le_trans (Nat.le_trans b2.size b3.size) b4.size)) |>.mono hsz)
          case measure => simp [intOf]; omega
    · obtain rfl : a = s.size := by omega
      go_wp2
      go_ret
      refine ⟨_, xs, rfl, hr, hn, ?_, hxl, hb⟩
      rw [HV.out, List.take_of_length_le (by rw [hl.out]; omega)]
end Go.Proofs.YtgfjjlopfoenkaaGreatDoor.L

namespace Go.Proofs.YtgfjjlopfoenkaaGreatDoor.L
open Go.RowKit Tl Go.Lib

theorem drop_more1 (xs : List Int) (k : Nat) (h : k < xs.length) : val (xs.drop k) = nth xs k + 1073741824 * val (xs.drop (k + 1)) := by
  rw [drop_getD xs k h]
  rfl
theorem drop_le (xs : List Int) (hx : Wd xs) (k : Nat) : val (xs.drop k) ≤ val xs := by
  by_cases h : k ≤ xs.length
  · have e := val_split xs k h
    have a := val_nonneg (hx.take k)
    have b := val_nonneg (hx.drop k)
    have p := pw_pos k
    have q := Int.mul_le_mul_of_nonneg_right (show 1 ≤ pw k by omega) b
    omega
  · rw [List.drop_eq_nil_of_le (by omega)]
    exact val_nonneg hx

theorem pow2_le {a b : Nat} (h : a ≤ b) : (2 : Int) ^ a ≤ 2 ^ b := by
  have := Nat.pow_le_pow_right (show 0 < 2 by decide) h
  have e : ∀ n : Nat, ((2 ^ n : Nat) : Int) = (2 : Int) ^ n := fun n => by simp
  rw [← e, ← e]
  omega
theorem bl_62 {x : Int} (h0 : 0 ≤ x) : bl x ≤ 62 ↔ x < 4611686018427387904 := by
  have e : (2 : Int) ^ 62 = 4611686018427387904 := by decide
  rw [← e]
  by_cases hx : 0 < x
  · obtain ⟨a, b, c⟩ := bl_pos hx
    constructor
    · intro h
      have : (2 : Int) ^ bl x ≤ 2 ^ 62 := pow2_le h
      omega
    · intro h
      by_cases hb : bl x ≤ 62
      · exact hb
      · have : (2 : Int) ^ 62 ≤ 2 ^ (bl x - 1) := pow2_le (by omega)
        omega
  · have : bl x = 0 := by unfold bl; rw [if_pos (by omega)]
    rw [this]
    constructor
    · intro _; rw [e]; omega
    · intro _; omega

set_option maxHeartbeats 1600000 in
set_option maxRecDepth 100000 in
/-- (Nat).Int of the reference. -/
theorem NInt_any (v : Value) (xs : List Int) (w : World) (h : Rd w v xs) (hn : Nm xs) (hl : xs.length ≤ 1000000000) :
    Calls Tryz.prog 144 #[v] w fun e w' => e = .returned (.tuple #[.int .i64 (if val xs < 4611686018427387904 then val xs else 0), .bool (decide (val xs < 4611686018427387904))]) ∧ w' = w := by
  have hB := Bits_fn v xs w h hn (by omega)
  obtain ⟨hx, a, cap, rfl, _, _, g⟩ := h
  have v0 := val_nonneg hx
  have hb62 := bl_62 v0
  have HB : Hid _ := hB
  clear hB
  by_cases hlt : val xs < 4611686018427387904
  · rw [if_pos hlt, decide_eq_true hlt]
    have hL : ¬ (62 : Int) < ((bl (val xs) : Nat) : Int) := by have := hb62.2 hlt; omega
    have HX : Hid (val xs < 4611686018427387904) := hlt
    clear hlt hb62
    generalize hVV : val xs = VV at *
    have HE : Hid (val xs = VV) := hVV
    clear hVV
    generalize bl VV = L at *
    go_enter Tryz.func144, Tryz.ntmps144
    go_wp2_with (go_at_call 181; refine Calls.mono HB.out ?_; rintro e w' ⟨rfl, rfl⟩)
    go_loop [4, 5] (fun n i => ∃ (k : Nat) (x : Int), k ≤ xs.length ∧ i = .int .i64 ((k : Int) - 1) ∧ n = .int .i64 x ∧ x = val (xs.drop k)) (fun _ i => (intOf i + 1).toNat)
    case atStart => exact ⟨xs.length, 0, Nat.le_refl _, by go_num, rfl, by rw [List.drop_length]; rfl⟩
    case round =>
      obtain ⟨k, x, hk, rfl, rfl, ex⟩ := hrel
      by_cases k0 : 0 < k
      · obtain ⟨i, rfl⟩ : ∃ i, k = i + 1 := ⟨k - 1, by omega⟩
        obtain ⟨b, o, rfl, hc⟩ := g (by omega)
        have c1 := hc.at (i := i) (by omega)
        have bd := nth_bd hx i
        have e1 := drop_more1 xs i (by omega)
        rw [← ex] at e1
        have l1 := drop_le xs hx i
        have x0 : 0 ≤ x := by rw [ex]; exact val_nonneg (hx.drop _)
        have hX := HX.out
        rw [HE.out] at l1
        have E1 : Hid (x * 1073741824 + nth xs i = val (xs.drop i)) := by show _ = _; omega
        have s1 : x * 1073741824 + nth xs i < 4611686018427387904 := by omega
        have s2 : ((i + 1 : Nat) : Int) - 1 = i := by omega
        rw [s2]
        have w1 : IntKind.i64.wrap (x * 1073741824) = x * 1073741824 := wrap_self _ (by omega) (by omega)
        have w2 : IntKind.i64.wrap (x * 1073741824 + nth xs i) = x * 1073741824 + nth xs i := wrap_self _ (by omega) (by omega)
        clear e1 l1 ex s2 g
        go_wp2
        go_round
        case rel => exact ⟨i, _, by omega, by go_num, rfl, E1.out⟩
        case measure => simp [intOf]
      · obtain rfl : k = 0 := by omega
        rw [List.drop_zero, HE.out] at ex
        subst ex
        go_wp2
        go_ret2
        exact ⟨rfl, rfl⟩
  · rw [if_neg hlt, decide_eq_false hlt]
    have hL : (62 : Int) < ((bl (val xs) : Nat) : Int) := by
      by_cases c : bl (val xs) ≤ 62
      · exact absurd (hb62.1 c) hlt
      · omega
    clear hlt hb62 g
    generalize bl (val xs) = L at *
    go_enter Tryz.func144, Tryz.ntmps144
    go_wp2_with (go_at_call 181; refine Calls.mono HB.out ?_; rintro e w' ⟨rfl, rfl⟩)
    go_ret2
    exact ⟨rfl, rfl⟩

set_option maxHeartbeats 800000 in
set_option maxRecDepth 100000 in
/-- Whole of the reference, not below nought. -/
theorem Whole_nat (n : Nat) (w : World) (hn : (n : Int) ≤ 9223372036854775807) :
    Calls Tryz.prog 40 #[.int .i64 (n : Int)] w fun e w' => e = .returned (.string ⟨(decDigits n).toArray⟩) ∧ Below w.heap.size w w' := by
  have L3 : Hid (∀ zs : List Int, Wd zs → Nm zs → val zs = (n : Int) → zs.length ≤ 3) := fun zs h1 h2 h3 => by
    refine len_of_lt h1 h2 ?_
    have p1 : pw 3 = 1237940039285380274899124224 := by decide
    omega
  go_enter Tryz.func40, Tryz.ntmps40
  go_wp2_with (first
    | (go_at_call 84; (refine (NatOf_any (n : Int) _ (by omega) (by omega)).mono ?_); rintro e w2 ⟨r2, zs2, rfl, hz2, nz2, vz2, b2⟩; have l2 : zs2.length ≤ 3 := L3.out zs2 hz2.1 nz2 vz2; have V2 : Hid (val zs2 = (n : Int)) := vz2; clear vz2)
    | (go_at_call 83; (refine (Text_any _ zs2 n _ hz2 nz2 (by omega) V2.out).mono ?_); rintro e w3 ⟨rfl, b3⟩))
  go_ret
  exact ⟨rfl, b2.trans (b3.mono b2.size)⟩
end Go.Proofs.YtgfjjlopfoenkaaGreatDoor.L

namespace Dc
/-- The byte at a place, or 256 behind the end. -/
def bt (s : ByteArray) (i : Nat) : Nat := if h : i < s.size then s[i].toNat else 256
theorem bt_in {s : ByteArray} {i : Nat} (h : i < s.size) : bt s i = s[i].toNat := by simp [bt, h]
theorem bt_out {s : ByteArray} {i : Nat} (h : s.size ≤ i) : bt s i = 256 := by simp [bt, Nat.not_lt.2 h]
theorem bt_lt {s : ByteArray} {i : Nat} (h : i < s.size) : bt s i < 256 := by rw [bt_in h]; exact UInt8.toNat_lt _
theorem lt_of_bt {s : ByteArray} {i : Nat} (h : bt s i ≠ 256) : i < s.size := by
  by_cases c : i < s.size
  · exact c
  · exact absurd (bt_out (by omega)) h
theorem ex_size (s : ByteArray) (a : Nat) : (s.extract a s.size).size = s.size - a := by rw [ByteArray.size_extract]; omega
theorem bt_ex (s : ByteArray) (a k : Nat) : bt (s.extract a s.size) k = bt s (a + k) := by
  by_cases h : a + k < s.size
  · rw [bt_in h, bt_in (by rw [ex_size]; omega), ByteArray.getElem_extract]
  · rw [bt_out (s := s) (by omega), bt_out (by rw [ex_size]; omega)]
/-- Does a digit stand there? -/
def dgt (s : ByteArray) (i : Nat) : Bool := decide (48 ≤ bt s i ∧ bt s i ≤ 57)
theorem dgt_lt {s : ByteArray} {i : Nat} (h : dgt s i = true) : i < s.size := lt_of_bt (by simp [dgt] at h; omega)
theorem dgt_ex (s : ByteArray) (a k : Nat) : dgt (s.extract a s.size) k = dgt s (a + k) := by simp [dgt, bt_ex]
def run (s : ByteArray) (i : Nat) : Nat → Nat
  | 0 => 0
  | f + 1 => if dgt s i = true then run s (i + 1) f + 1 else 0
theorem run_spec (s : ByteArray) (f i : Nat) (h : s.size ≤ i + f) : (∀ j, j < run s i f → dgt s (i + j) = true) ∧ dgt s (i + run s i f) = false := by
  induction f generalizing i with
  | zero =>
    refine ⟨fun j hj => by simp [run] at hj, ?_⟩
    simp only [run, Nat.add_zero, dgt, bt_out (show s.size ≤ i by omega)]
    decide
  | succ f ih =>
    by_cases c : dgt s i = true
    · obtain ⟨a, b⟩ := ih (i + 1) (by omega)
      simp only [run, c, if_true]
      refine ⟨fun j hj => ?_, by rw [← b]; congr 1; omega⟩
      rcases j with _ | j
      · exact c
      · have := a j (by omega)
        rw [← this]; congr 1; omega
    · have c' : dgt s i = false := by simpa using c
      simp [run, c']
/-- How many digits stand from a place on. -/
def nd (s : ByteArray) (i : Nat) : Nat := run s i (s.size - i)
theorem nd_spec (s : ByteArray) (i : Nat) : (∀ j, j < nd s i → dgt s (i + j) = true) ∧ dgt s (i + nd s i) = false := run_spec s _ i (by omega)
theorem nd_eq {s : ByteArray} {i k : Nat} (h1 : ∀ j, j < k → dgt s (i + j) = true) (h2 : dgt s (i + k) = false) : k = nd s i := by
  obtain ⟨a, b⟩ := nd_spec s i
  rcases Nat.lt_trichotomy k (nd s i) with c | c | c
  · have := a k c; rw [this] at h2; cases h2
  · exact c
  · have := h1 _ c; rw [this] at b; cases b
theorem nd_ex (s : ByteArray) (a : Nat) : nd (s.extract a s.size) 0 = nd s a := by
  apply nd_eq
  · intro j hj
    have := (nd_spec (s.extract a s.size) 0).1 j hj
    rwa [Nat.zero_add, dgt_ex] at this
  · have := (nd_spec (s.extract a s.size) 0).2
    rwa [Nat.zero_add, dgt_ex] at this
/-- The sign, where the pounds begin, and where they end. -/
def neg (s : ByteArray) : Bool := decide (bt s 0 = 45)
def fr (s : ByteArray) : Nat := if neg s then 1 else 0
def rest (s : ByteArray) : ByteArray := if neg s then s.extract 1 s.size else s
def tw (s : ByteArray) : Nat := if bt s (fr s) = 48 then fr s + 1 else fr s + nd s (fr s)
theorem ex_all (s : ByteArray) : s.extract 0 s.size = s := by
  apply ByteArray.ext
  simp
theorem rest_ex (s : ByteArray) : rest s = s.extract (fr s) s.size := by
  unfold rest fr
  split
  · rfl
  · rw [ex_all]
theorem fr_le (s : ByteArray) : fr s ≤ s.size := by
  unfold fr
  split
  · rename_i h
    have : bt s 0 = 45 := by simpa [neg] using h
    have := lt_of_bt (s := s) (i := 0) (by omega)
    omega
  · omega
theorem tw_le (s : ByteArray) : tw s ≤ s.size := by
  unfold tw
  split
  · rename_i h
    have := lt_of_bt (s := s) (i := fr s) (by omega)
    omega
  · have a := (nd_spec s (fr s)).1
    have b := fr_le s
    by_cases c : nd s (fr s) = 0
    · omega
    · have := dgt_lt (a (nd s (fr s) - 1) (by omega))
      omega
theorem fr_tw (s : ByteArray) : fr s ≤ tw s := by unfold tw; split <;> omega
theorem tw_dgt (s : ByteArray) (j : Nat) (h1 : fr s ≤ j) (h2 : j < tw s) : dgt s j = true := by
  unfold tw at h2
  split at h2
  · rename_i h
    have : j = fr s := by omega
    rw [this, dgt, h]
    decide
  · have := (nd_spec s (fr s)).1 (j - fr s) (by omega)
    rwa [show fr s + (j - fr s) = j from by omega] at this
/-- Is it -0.00? -/
def nought (s : ByteArray) : Bool := neg s && decide (tw s = fr s + 1) && decide (bt s (fr s) = 48) && decide (bt s (tw s + 1) = 48) && decide (bt s (tw s + 2) = 48)
/-- How far a text is an amount's, and whether it is one. -/
def beg (s : ByteArray) : Nat × Bool :=
  if tw s = fr s ∨ bt s (tw s) ≠ 46 then (tw s, false)
  else if dgt s (tw s + 1) = false then (tw s + 1, false)
  else if dgt s (tw s + 2) = false ∨ nought s = true then (tw s + 2, false)
  else (tw s + 3, decide (tw s + 3 = s.size))
/-- Its digits. -/
def digs (s : ByteArray) : List UInt8 := ((s.data.toList.drop (fr s)).take (tw s - fr s)) ++ s.data.toList.drop (tw s + 1)
/-- What a text is read as: the amount, the place, the error. -/
def readS (s : ByteArray) : Int × Int × Int :=
  if 65536 < s.size then (0, 0, 3)
  else if (beg s).2 = false then (0, ((beg s).1 : Int), 2)
  else if num (digs s) ≤ 1000000000000000 then ((if neg s then -(num (digs s) : Int) else (num (digs s) : Int)), 0, 0) else (0, 0, 6)
end Dc
