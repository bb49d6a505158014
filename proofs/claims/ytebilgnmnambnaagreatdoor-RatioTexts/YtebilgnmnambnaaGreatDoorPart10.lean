import Derived.Test.YtebilgnmnambnaaGreatDoorPart09

namespace Go.Proofs.YtebilgnmnambnaaGreatDoor.L
open Go.RowKit Tl
structure Mu (X0 B : List Int) (i : Nat) (x : Int) (k : Nat) (c : Int) (X : List Int) : Prop where
  len : X.length = X0.length
  wd : Wd X
  up : ∀ j, i + k ≤ j → nth X j = nth X0 j
  c0 : 0 ≤ c
  c1 : c < 1073741824
  eq : val X + pw (i + k) * c = val X0 + x * (pw i * val (B.take k))
theorem Mu.start {X0 B : List Int} {i : Nat} {x : Int} (h : Wd X0) : Mu X0 B i x 0 0 X0 := ⟨rfl, h, fun _ _ => rfl, by omega, by omega, by simp [val]⟩
theorem mu_bd {a b y c : Int} (a0 : 0 ≤ a) (a1 : a < 1073741824) (b0 : 0 ≤ b) (b1 : b < 1073741824) (y0 : 0 ≤ y) (y1 : y < 1073741824) (c0 : 0 ≤ c) (c1 : c < 1073741824) : 0 ≤ a * b ∧ a * b ≤ 1152921502459363329 ∧ c + (y + a * b) < 1152921504606846976 := by
  have h0 := Int.mul_nonneg a0 b0
  have h1 := Int.mul_le_mul (show a ≤ 1073741823 by omega) (show b ≤ 1073741823 by omega) b0 (by decide)
  omega
theorem Mu.next {X0 B : List Int} {i : Nat} {x : Int} {k : Nat} {c S : Int} {X : List Int} (h : Mu X0 B i x k c X) (hB : Wd B) (x0 : 0 ≤ x) (x1 : x < 1073741824) (hk : k < B.length) (hl : i + k < X0.length) (hS : S = c + (nth X (i + k) + x * nth B k)) : Mu X0 B i x (k + 1) (S / 1073741824) (X.set (i + k) (S % 1073741824)) := by
  have hlen := h.len
  have b := nth_bd h.wd (i + k)
  have b2 := nth_bd hB k
  have bd := mu_bd x0 x1 b2.1 b2.2 b.1 b.2 h.c0 h.c1
  have c0 := h.c0
  refine ⟨by simp [hlen], h.wd.set _ (by omega) (by omega), ?_, by omega, by omega, ?_⟩
  · intro j hj
    rw [nth_set_other _ _ _ _ (by omega)]
    exact h.up j (by omega)
  · have e := h.eq
    have es : S = S % 1073741824 + 1073741824 * (S / 1073741824) := by omega
    rw [val_set (by omega), val_at B k hk, show i + (k + 1) = i + k + 1 from rfl]
    have a4 : pw (i + k) = pw i * pw k := pw_add i k
    generalize S % 1073741824 = p at *
    generalize S / 1073741824 = q at *
    simp only [pw]
    rw [a4] at e ⊢
    grind
structure Mo (A B : List Int) (i : Nat) (X : List Int) : Prop where
  len : X.length = A.length + B.length
  wd : Wd X
  zero : ∀ j, i + B.length ≤ j → nth X j = 0
  eq : val X = val (A.take i) * val B
theorem Mo.start (A B : List Int) : Mo A B 0 (List.replicate (A.length + B.length) 0) := ⟨by simp, wd_zero _, fun j _ => nth_replicate _ _, by rw [val_zeros]; simp [val]⟩
theorem Mo.next {A B X0 X : List Int} {i : Nat} {c : Int} (h : Mo A B i X0) (m : Mu X0 B i (nth A i) B.length c X) (hi : i < A.length) : nth X (i + B.length) = 0 ∧ Mo A B (i + 1) (X.set (i + B.length) c) := by
  have hlen := m.len
  have hl := h.len
  have z : nth X (i + B.length) = 0 := by rw [m.up _ (Nat.le_refl _)]; exact h.zero _ (Nat.le_refl _)
  refine ⟨z, ⟨by simp; omega, m.wd.set _ m.c0 m.c1, ?_, ?_⟩⟩
  · intro j hj
    rw [nth_set_other _ _ _ _ (by omega), m.up j (by omega)]
    exact h.zero j (by omega)
  · have e := m.eq
    have e2 := h.eq
    rw [List.take_length] at e
    rw [val_set (by omega), z, val_at A i hi]
    grind
theorem mul_none_l (a1 : Option Addr) (c1 : Nat) (v : Value) (w : World) : Calls Tryz.prog 78 #[.slice a1 0 c1, v] w fun e w' => e = .returned (.slice none 0 0) ∧ w' = w := by
  go_enter Tryz.func78, Tryz.ntmps78
  go_wp2
  go_ret
  exact ⟨rfl, rfl⟩
theorem mul_none_r (a1 a2 : Option Addr) (n1 c1 c2 : Nat) (h : ((n1 : Int) == 0) = false) (w : World) : Calls Tryz.prog 78 #[.slice a1 n1 c1, .slice a2 0 c2] w fun e w' => e = .returned (.slice none 0 0) ∧ w' = w := by
  go_enter Tryz.func78, Tryz.ntmps78
  go_wp2
  go_ret
  exact ⟨rfl, rfl⟩
set_option maxHeartbeats 3200000 in
set_option maxRecDepth 100000 in
theorem mul_some (a1 a2 : Option Addr) (c1 c2 : Nat) (xs ys : List Int) (w : World) (hx : Wd xs) (hy : Wd ys) (g1 : 0 < xs.length → ∃ b o, a1 = some ⟨b, o, none⟩ ∧ Cells w b o xs) (g2 : 0 < ys.length → ∃ b o, a2 = some ⟨b, o, none⟩ ∧ Cells w b o ys) (p1 : 0 < xs.length) (p2 : 0 < ys.length) (l1 : xs.length ≤ 274877906944) (l2 : ys.length ≤ 274877906944) :
    Calls Tryz.prog 78 #[.slice a1 xs.length c1, .slice a2 ys.length c2] w fun e w' => ∃ v zs, e = .returned v ∧ Rd w' v zs ∧ Nm zs ∧ val zs = val xs * val ys ∧ Below w.heap.size w w' := by
  obtain ⟨b1, o1, rfl, q1⟩ := g1 p1
  obtain ⟨b2, o2, rfl, q2⟩ := g2 p2
  have hs1 : Hid (∀ w', Below w.heap.size w w' → Cells w' b1 o1 xs) := fun w' h => q1.grow h
  have hs2 : Hid (∀ w', Below w.heap.size w w' → Cells w' b2 o2 ys) := fun w' h => q2.grow h
  have z1 : ((xs.length : Int) == 0) = false := by rw [beq_eq_false_iff_ne]; omega
  have z2 : ((ys.length : Int) == 0) = false := by rw [beq_eq_false_iff_ne]; omega
  clear q1 q2 g1 g2
  obtain ⟨N, hN⟩ : ∃ N, N = xs.length + ys.length := ⟨_, rfl⟩
  have HN : Hid (N = xs.length + ys.length) := hN
  have nb : N ≤ 549755813888 := by omega
  have hw0 : IntKind.i64.wrap ((xs.length : Int) + ys.length) = (N : Int) := by rw [hN, wrap_self _ (by omega) (by omega)]; simp
  clear hN
  go_enter Tryz.func78, Tryz.ntmps78
  go_wp2_with (first
    | (at_make; refine wpList_make_words rfl _ _ rfl N _ _ rfl rfl rfl rfl (by omega) ?_; intro w1 k1 k2 k3 k4)
    | fail)
  go_loopw [6] (fun i wr => ∃ (k : Nat) (X : List Int), k ≤ xs.length ∧ i = .int .i64 k ∧ Mo xs ys k X ∧ Cells wr w.heap.size 0 X ∧ Wr w.heap.size 0 N w1 wr) (fun i _ => xs.length - (intOf i).toNat)
  case atStart => exact ⟨0, _, Nat.zero_le _, rfl, Mo.start xs ys, by rw [← HN.out]; exact k1, Wr.refl _ _ _ _⟩
  case round =>
    obtain ⟨i, X, hi, rfl, hMo, hc, hwr⟩ := hrel
    have hlX : Hid (X.length = xs.length + ys.length) := hMo.len
    by_cases hlt : i < xs.length
    · have HMo : Hid (Mo xs ys i X) := hMo
      clear hMo
      go_wp2_with fail
      go_loopw [7, 8] (fun c k wr => ∃ (k' : Nat) (cy : Int) (Y : List Int), k' ≤ ys.length ∧ c = .int .i64 cy ∧ k = .int .i64 k' ∧ Mu X ys i (nth xs i) k' cy Y ∧ Cells wr w.heap.size 0 Y ∧ Wr w.heap.size 0 N w1 wr) (fun _ k _ => ys.length - (intOf k).toNat)
      case atStart => exact ⟨0, 0, X, Nat.zero_le _, rfl, rfl, Mu.start HMo.out.wd, hc, hwr⟩
      case round =>
        clear hc hwr
        obtain ⟨k, cy, Y, hk, rfl, rfl, hMu, hc, hwr⟩ := hrel
        have hb := k3.trans (hwr.below (B := w.heap.size) (Nat.le_refl _) (by omega))
        have lY : Hid (Y.length = xs.length + ys.length) := hMu.len.trans hlX.out
        by_cases hlt2 : k < ys.length
        · have kx := hc.at (i := i + k) (by rw [lY.out]; omega)
          have kf := ((k2.wr hwr).free 0 N) (i + k) (by rw [HN.out]; omega)
          rw [Nat.zero_add] at kx kf
          have d1 := (hs1.out _ hb).at (i := i) hlt
          have d2 := (hs2.out _ hb).at (i := k) hlt2
          have y1 : (0 : Int) ≤ (i : Int) + k := by omega
          have y2 : ((i : Int) + k).toNat = i + k := by omega
          have y3 : IntKind.i64.wrap ((i : Int) + k) = (i : Int) + k := wrap_self _ (by omega) (by omega)
          have y4 : (i : Int) + k < N := by rw [HN.out]; omega
          have ba := nth_bd hx i
          have bb := nth_bd hy k
          have bY := nth_bd hMu.wd (i + k)
          obtain ⟨S, hS⟩ : ∃ S, cy + (nth Y (i + k) + nth xs i * nth ys k) = S := ⟨_, rfl⟩
          have NX : Hid (Mu X ys i (nth xs i) (k + 1) (S / 1073741824) (Y.set (i + k) (S % 1073741824))) := hMu.next hy ba.1 ba.2 hlt2 (by rw [hlX.out]; omega) hS.symm
          have bd := mu_bd ba.1 ba.2 bb.1 bb.2 bY.1 bY.2 hMu.c0 hMu.c1
          have c0 := hMu.c0
          generalize nth Y (i + k) = y at *
          generalize nth xs i = a at *
          generalize nth ys k = b at *
          have e1 : IntKind.i64.wrap (a * b) = a * b := wrap_self _ (by omega) (by omega)
          have e2 : IntKind.i64.wrap (y + a * b) = y + a * b := wrap_self _ (by omega) (by omega)
          have e3 : IntKind.i64.wrap (cy + (y + a * b)) = S := by rw [hS]; exact wrap_self _ (by omega) (by omega)
          have s0 : 0 ≤ S := by omega
          have s1 : S < 1152921504606846976 := by omega
          have e4 : S.tdiv 1073741824 = S / 1073741824 := Int.tdiv_eq_ediv_of_nonneg s0
          have e5 : S.tmod 1073741824 = S % 1073741824 := Int.tmod_eq_emod_of_nonneg s0
          have i6 : Hid (k + 1 ≤ ys.length) := hlt2
          have LN : Hid (∀ m, Cells ((wr.drewN m).setCell ⟨w.heap.size, i + k, none⟩ (.int .i64 (S % 1073741824))) w.heap.size 0 (Y.set (i + k) (S % 1073741824)) ∧ Wr w.heap.size 0 N w1 ((wr.drewN m).setCell ⟨w.heap.size, i + k, none⟩ (.int .i64 (S % 1073741824)))) := fun m => ⟨by have := Cells.set (w := wr.drewN m) hc (i + k) (by rw [lY.out]; omega) (S % 1073741824); simpa using this, (hwr.drewN m).setCell (i + k) (by rw [HN.out]; omega) _⟩
          clear hS bd ba bb bY hMu
          go_wp2_with fail
          go_quiet (fail)
          go_wp2
          go_roundw
          case rel => exact ⟨k + 1, _, _, i6.out, rfl, by go_num, NX.out, (LN.out _).1, (LN.out _).2⟩
          case measure => simp [intOf]; omega
        · have ek : k = ys.length := by omega
          subst ek
          obtain ⟨z, R⟩ := HMo.out.next hMu hlt
          have kx := hc.at (i := i + ys.length) (by rw [lY.out]; omega)
          have kf := ((k2.wr hwr).free 0 N) (i + ys.length) (by rw [HN.out]; omega)
          rw [Nat.zero_add] at kx kf
          rw [z] at kx
          have HR : Hid (Mo xs ys (i + 1) (Y.set (i + ys.length) cy)) := R
          have y1 : (0 : Int) ≤ (i : Int) + ys.length := by omega
          have y2 : ((i : Int) + ys.length).toNat = i + ys.length := by omega
          have y3 : IntKind.i64.wrap ((i : Int) + ys.length) = (i : Int) + ys.length := wrap_self _ (by omega) (by omega)
          have y4 : (i : Int) + ys.length < N := by rw [HN.out]; omega
          have e1 : IntKind.i64.wrap cy = cy := wrap_self _ (by have := hMu.c0; omega) (by have := hMu.c1; omega)
          have hlt3 : i + 1 ≤ xs.length := hlt
          have LN : Hid (Cells (wr.setCell ⟨w.heap.size, i + ys.length, none⟩ (.int .i64 cy)) w.heap.size 0 (Y.set (i + ys.length) cy) ∧ Wr w.heap.size 0 N w1 (wr.setCell ⟨w.heap.size, i + ys.length, none⟩ (.int .i64 cy))) := ⟨by have := Cells.set hc (i + ys.length) (by rw [lY.out]; omega) cy; simpa using this, hwr.setCell (i + ys.length) (by rw [HN.out]; omega) _⟩
          clear R hMu z
          go_wp2
          go_roundw
          case rel => exact ⟨i + 1, _, hlt3, by go_num, HR.out, LN.out.1, LN.out.2⟩
          case measure => simp [intOf]; omega
    · have ek : i = xs.length := by omega
      subst ek
      have hb := k3.trans (hwr.below (B := w.heap.size) (Nat.le_refl _) (by omega))
      have Rv : Hid (val X = val xs * val ys) := by
        have e := hMo.eq
        rw [List.take_length] at e; exact e
      have wX := hMo.wd
      have lX2 : Hid (N = X.length) := by show N = X.length; rw [HN.out, hlX.out]
      clear hMo
      go_wp2_with fail
      refine (norm_rd _ _ _ X wr lX2.out wX (by have := lX2.out; omega) (by omega) (fun _ => ⟨_, _, rfl, hc⟩)).mono ?_
      rintro e w' ⟨n, zs, rfl, hrd, hnm, hvz, rfl⟩
      have hvz' : Hid (val zs = val xs * val ys) := hvz.trans Rv.out
      clear hvz
      go_wp2
      go_ret
      exact ⟨_, zs, rfl, hrd, hnm, hvz'.out, hb⟩
theorem Mul_any (v1 v2 : Value) (xs ys : List Int) (w : World) (h1 : Rd w v1 xs) (h2 : Rd w v2 ys) (l1 : xs.length ≤ 274877906944) (l2 : ys.length ≤ 274877906944) :
    Calls Tryz.prog 78 #[v1, v2] w fun e w' => ∃ v zs, e = .returned v ∧ Rd w' v zs ∧ Nm zs ∧ val zs = val xs * val ys ∧ Below w.heap.size w w' := by
  obtain ⟨hx, a1, c1, rfl, _, _, g1⟩ := h1
  obtain ⟨hy, a2, c2, rfl, _, _, g2⟩ := h2
  by_cases p1 : 0 < xs.length
  · by_cases p2 : 0 < ys.length
    · exact mul_some a1 a2 c1 c2 xs ys w hx hy g1 g2 p1 p2 l1 l2
    · have e0 : ys = [] := List.eq_nil_of_length_eq_zero (by omega)
      subst e0
      refine (mul_none_r a1 a2 xs.length c1 c2 (by rw [beq_eq_false_iff_ne]; omega) w).mono ?_
      rintro e w' ⟨rfl, rfl⟩
      exact ⟨_, [], rfl, rd_nil _, Or.inl rfl, by simp [val], Below.refl _ _⟩
  · have e0 : xs = [] := List.eq_nil_of_length_eq_zero (by omega)
    subst e0
    refine (mul_none_l a1 c1 _ w).mono ?_
    rintro e w' ⟨rfl, rfl⟩
    exact ⟨_, [], rfl, rd_nil _, Or.inl rfl, by simp [val], Below.refl _ _⟩
end Go.Proofs.YtebilgnmnambnaaGreatDoor.L

namespace Go.Proofs.YtebilgnmnambnaaGreatDoor.L
open Go.RowKit Tl
theorem rd_form {w : World} {v : Value} {xs : List Int} (h : Rd w v xs) : ∃ a c, v = .slice a xs.length c := by obtain ⟨_, a, c, e, _⟩ := h; exact ⟨a, c, e⟩
theorem mul_len {A B Z : List Int} (ha : Wd A) (hb : Wd B) (hz : Wd Z) (nz : Nm Z) (e : val Z = val A * val B) : Z.length ≤ A.length + B.length := by
  refine len_of_lt hz nz ?_
  rw [e, pw_add]
  have a1 := val_lt ha
  have b1 := val_lt hb
  have a0 := val_nonneg ha
  have b0 := val_nonneg hb
  have p := pw_pos A.length
  have h1 : val A * val B ≤ pw A.length * val B := Int.mul_le_mul_of_nonneg_right (by omega) b0
  have h2 : pw A.length * val B < pw A.length * pw B.length := Int.mul_lt_mul_of_pos_left b1 p
  omega
end Go.Proofs.YtebilgnmnambnaaGreatDoor.L

namespace Go.Proofs.YtebilgnmnambnaaGreatDoor.L
open Go.RowKit Tl
def sgI (g : Bool) (x : Int) : Int := if g = true then -x else x
theorem sgI_abs (g : Bool) {x : Int} (h : 0 ≤ x) : ((sgI g x).natAbs : Int) = x := by
  unfold sgI
  split <;> omega
def IsQ (w : World) (v : Value) (r : Rat) : Prop :=
  ∃ (ns ds : List Int) (a1 a2 : Option Addr) (c1 c2 : Nat), v = .agg #[.bool (decide (r.num < 0)), .slice a1 ns.length c1, .slice a2 ds.length c2] ∧ Rd w (.slice a1 ns.length c1) ns ∧ Nm ns ∧ val ns = (r.num.natAbs : Int) ∧ Rd w (.slice a2 ds.length c2) ds ∧ Nm ds ∧ val ds = (r.den : Int)
theorem IsQ.grow {w w' : World} {v : Value} {r : Rat} (h : IsQ w v r) (b : Below w.heap.size w w') : IsQ w' v r := by
  obtain ⟨ns, ds, a1, a2, c1, c2, e, h1, n1, v1, h2, n2, v2⟩ := h
  exact ⟨ns, ds, a1, a2, c1, c2, e, h1.grow b, n1, v1, h2.grow b, n2, v2⟩
theorem gcd_eq (X Y : Int) (g : Bool) (hX : 0 ≤ X) (hY : 0 < Y) : Y.toNat.gcd (sgI g X).natAbs = Int.gcd X Y := by
  rw [Nat.gcd_comm]
  unfold Int.gcd
  have e1 : (sgI g X).natAbs = X.natAbs := by unfold sgI; split <;> omega
  have e2 : Y.toNat = Y.natAbs := by omega
  rw [e1, e2]
theorem mk_low {X Y N D : Int} (g : Bool) (hX : 0 < X) (hY : 0 < Y) (hN : 0 ≤ N) (eN : N * (Int.gcd X Y : Int) = X) (eD : D * (Int.gcd X Y : Int) = Y) :
    decide ((mkRat (sgI g X) Y.toNat).num < 0) = g ∧ N = ((mkRat (sgI g X) Y.toNat).num.natAbs : Int) ∧ D = ((mkRat (sgI g X) Y.toNat).den : Int) := by
  have y0 : Y.toNat ≠ 0 := by omega
  have G := gcd_eq X Y g (by omega) hY
  have num : (mkRat (sgI g X) Y.toNat).num = sgI g X / (Int.gcd X Y : Int) := by
    rw [Rat.num_mkRat, if_neg y0]
    rw [show ((Y.toNat.gcd (sgI g X).natAbs : Nat) : Int) = (Int.gcd X Y : Int) from by rw [G]]
  have den : ((mkRat (sgI g X) Y.toNat).den : Int) = Y / (Int.gcd X Y : Int) := by
    rw [Rat.den_mkRat, if_neg y0, G, Int.natCast_ediv, Int.toNat_of_nonneg (by omega)]
  rw [num, den]
  generalize (Int.gcd X Y : Int) = d at *
  have d0 : d ≠ 0 := by intro e; rw [e] at eN; simp at eN; omega
  have e1 : sgI g X / d = sgI g N := by
    unfold sgI
    split
    · rw [← eN, ← Int.neg_mul, Int.mul_ediv_cancel _ d0]
    · rw [← eN, Int.mul_ediv_cancel _ d0]
  have e2 : Y / d = D := by rw [← eD, Int.mul_ediv_cancel _ d0]
  have n0 : N ≠ 0 := by intro e; rw [e] at eN; simp at eN; omega
  rw [e1, e2]
  refine ⟨?_, (sgI_abs g hN).symm, rfl⟩
  unfold sgI
  cases g
  · rw [if_neg (by simp), decide_eq_false_iff_not]; omega
  · rw [if_pos rfl, decide_eq_true_eq]; omega
theorem val_nil : val ([] : List Int) = 0 := rfl
set_option maxHeartbeats 1600000 in
set_option maxRecDepth 100000 in
theorem make_none (neg : Bool) (a1 : Option Addr) (c1 : Nat) (v2 : Value) (w : World) :
    Calls Tryz.prog 80 #[.bool neg, .slice a1 0 c1, v2] w fun e w' => ∃ u2, e = .returned (.agg #[.bool false, .slice none 0 0, u2]) ∧ Rd w' u2 [1] ∧ Below w.heap.size w w' := by
  have ho : Rd ((w.alloc (.cells #[.bool false, .slice none 0 0, .slice (some ⟨w.heap.size + 1, 0, none⟩) 1 1] 56)).alloc (.cells #[.int .i64 1] 3)) (.slice (some ⟨w.heap.size + 1, 0, none⟩) 1 1) [1] := rd_one (cell_at (by simp)) (by decide) (by decide)
  have pr : Below w.heap.size w ((w.alloc (.cells #[.bool false, .slice none 0 0, .slice (some ⟨w.heap.size + 1, 0, none⟩) 1 1] 56)).alloc (.cells #[.int .i64 1] 3)) := ((Below.refl _ _).alloc (Nat.le_refl _) _).alloc (by simp) _
  go_enter Tryz.func80, Tryz.ntmps80
  go_wp2
  exact bodyPost_ret (v := .agg #[.bool false, .slice none 0 0, .slice (some ⟨w.heap.size + 1, 0, none⟩) 1 1]) (by simp [results, Tryz.results80, go_sem]) rfl ⟨_, rfl, ho, pr⟩
theorem Make_q (neg : Bool) (v1 v2 : Value) (xs ys : List Int) (L : Nat) (w : World) (h1 : Rd w v1 xs) (h2 : Rd w v2 ys) (n1 : Nm xs) (n2 : Nm ys) (l1 : xs.length ≤ L) (l2 : ys.length ≤ L) (hL : L ≤ 274877906944) (y0 : 0 < val ys) :
    Calls Tryz.prog 80 #[.bool neg, v1, v2] w fun e w' => ∃ v, e = .returned v ∧ IsQ w' v (mkRat (sgI neg (val xs)) (val ys).toNat) ∧ Below w.heap.size w w' := by
  by_cases p1 : 0 < xs.length
  · have x0 : 0 < val xs := by
      have := val_nonneg h1.1
      by_cases c : val xs = 0
      · rw [val_eq_zero h1.1 n1] at c
        rw [c] at p1; simp at p1
      · omega
    refine (Make_any neg v1 v2 xs ys L w h1 h2 n1 n2 l1 l2 hL p1).mono ?_
    rintro e w' ⟨u1, u2, ns, ds, rfl, hn, nn, hd, nd, eN, eD, hb⟩
    obtain ⟨a, c, rfl⟩ := rd_form hn
    obtain ⟨a', c', rfl⟩ := rd_form hd
    obtain ⟨m1, m2, m3⟩ := mk_low neg x0 y0 (val_nonneg hn.1) eN eD
    exact ⟨_, rfl, ⟨ns, ds, a, a', c, c', by rw [m1], hn, nn, m2, hd, nd, m3⟩, hb⟩
  · have e0 : xs = [] := List.eq_nil_of_length_eq_zero (by omega)
    subst e0
    obtain ⟨a, c, rfl⟩ := rd_form h1
    have e : mkRat (sgI neg (val [])) (val ys).toNat = 0 := by
      rw [val_nil]
      have : sgI neg 0 = 0 := by cases neg <;> rfl
      rw [this, Rat.zero_mkRat]
    rw [e]
    refine (make_none neg a c v2 w).mono ?_
    rintro e w' ⟨u2, rfl, h, hb⟩
    obtain ⟨a', c', rfl⟩ := rd_form h
    have z : decide ((0 : Rat).num < 0) = false := by decide
    exact ⟨_, rfl, ⟨[], [1], none, a', 0, c', by rw [z]; rfl, rd_nil _, Or.inl rfl, by rw [val_nil]; rfl, h, nm_one, by rw [val_one]; rfl⟩, hb⟩
end Go.Proofs.YtebilgnmnambnaaGreatDoor.L

namespace Go.Proofs.YtebilgnmnambnaaGreatDoor.L
open Go.RowKit Tl
def QS (r : Rat) (K : Nat) : Prop := (r.num.natAbs : Int) < pw K ∧ (r.den : Int) < pw K
end Go.Proofs.YtebilgnmnambnaaGreatDoor.L

namespace Go.Proofs.YtebilgnmnambnaaGreatDoor.L
open Go.RowKit Tl
theorem isq_form {w : World} {v : Value} {r : Rat} (h : IsQ w v r) : ∃ g p1 m1 c1 p2 m2 c2, v = .agg #[.bool g, .slice p1 m1 c1, .slice p2 m2 c2] ∧ Hid (g = decide (r.num < 0)) := by
  obtain ⟨ns, ds, a1, a2, c1, c2, e, _⟩ := h
  exact ⟨_, a1, _, c1, a2, _, c2, e, rfl⟩
end Go.Proofs.YtebilgnmnambnaaGreatDoor.L
namespace Go.Proofs.YtebilgnmnambnaaGreatDoor.Mo
open Go.RowKit
def Qf (r : Rat) (x : World) (e : Ending) (w' : World) : Prop := ∃ g a l c a' l' c', e = .returned (.agg #[.bool g, .slice a l c, .slice a' l' c']) ∧ L.IsQ w' (.agg #[.bool g, .slice a l c, .slice a' l' c']) r ∧ Below x.heap.size x w'
theorem qf_of {P : Program} {f : Nat} {args : Array Value} {r : Rat} {x : World} (h : Calls P f args x fun e w' => ∃ v, e = .returned v ∧ L.IsQ w' v r ∧ Below x.heap.size x w') : Calls P f args x (Qf r x) := by
  refine h.mono ?_
  rintro e w' ⟨v, rfl, hq, b⟩
  obtain ⟨g, a, l, c, a', l', c', rfl, _⟩ := L.isq_form hq
  exact ⟨g, a, l, c, a', l', c', rfl, hq, b⟩
end Go.Proofs.YtebilgnmnambnaaGreatDoor.Mo
