import Derived.Test.YtfalncbcomlelaaGreatDoorB18
namespace Go.Proofs.YtfalncbcomlelaaGreatDoor.L
open Go.RowKit Tl

/-- x times B is added to X0 from place i on: k limbs of it. -/
structure Mu (X0 B : List Int) (i : Nat) (x : Int) (k : Nat) (c : Int) (X : List Int) : Prop where
  len : X.length = X0.length
  wd : Wd X
  up : ∀ j, i + k ≤ j → nth X j = nth X0 j
  c0 : 0 ≤ c
  c1 : c < 1073741824
  eq : val X + pw (i + k) * c = val X0 + x * (pw i * val (B.take k))
theorem Mu.start {X0 B : List Int} {i : Nat} {x : Int} (h : Wd X0) : Mu X0 B i x 0 0 X0 := ⟨rfl, h, fun _ _ => rfl, by omega, by omega, by simp [val]⟩
theorem mu_bd {a b y c : Int} (a0 : 0 ≤ a) (a1 : a < 1073741824) (b0 : 0 ≤ b) (b1 : b < 1073741824) (y0 : 0 ≤ y) (y1 : y < 1073741824) (c0 : 0 ≤ c) (c1 : c < 1073741824) : 0 ≤ a * b ∧ a * b ≤ 1152921502459363329 ∧ c + (y + a * b) < 1152921504606846976 := by
  have h0 := Int.mul_nonneg a0 b0
  have h1 := Int.mul_le_mul (show a ≤ 1073741823 by omega) (show b ≤ 1073741823 by omega) b0 (by decide)
  omega
theorem Mu.next {X0 B : List Int} {i : Nat} {x : Int} {k : Nat} {c S : Int} {X : List Int} (h : Mu X0 B i x k c X) (hB : Wd B) (x0 : 0 ≤ x) (x1 : x < 1073741824) (hk : k < B.length) (hl : i + k < X0.length) (hS : S = c + (nth X (i + k) + x * nth B k)) : Mu X0 B i x (k + 1) (S / 1073741824) (X.set (i + k) (S % 1073741824)) := by
  have hlen := h.len
  have b := nth_bd h.wd (i + k)
  have b2 := nth_bd hB k
  have bd := mu_bd x0 x1 b2.1 b2.2 b.1 b.2 h.c0 h.c1
  have c0 := h.c0
  refine ⟨by simp [hlen], h.wd.set _ (by omega) (by omega), ?_, by omega, by omega, ?_⟩
  · intro j hj
    rw [nth_set_other _ _ _ _ (by omega)]
    exact h.up j (by omega)
  · have e := h.eq
    have es : S = S % 1073741824 + 1073741824 * (S / 1073741824) := by omega
    rw [val_set (by omega), val_at B k hk, show i + (k + 1) = i + k + 1 from rfl]
    have a4 : pw (i + k) = pw i * pw k := pw_add i k
    generalize S % 1073741824 = p at *
    generalize S / 1073741824 = q at *
    simp only [pw]
    rw [a4] at e ⊢
    grind
/-- The first i limbs of A times B. -/
structure Mo (A B : List Int) (i : Nat) (X : List Int) : Prop where
  len : X.length = A.length + B.length
  wd : Wd X
  zero : ∀ j, i + B.length ≤ j → nth X j = 0
  eq : val X = val (A.take i) * val B
theorem Mo.start (A B : List Int) : Mo A B 0 (List.replicate (A.length + B.length) 0) := ⟨by simp, wd_zero _, fun j _ => nth_replicate _ _, by rw [val_zeros]; simp [val]⟩
theorem Mo.next {A B X0 X : List Int} {i : Nat} {c : Int} (h : Mo A B i X0) (m : Mu X0 B i (nth A i) B.length c X) (hi : i < A.length) : nth X (i + B.length) = 0 ∧ Mo A B (i + 1) (X.set (i + B.length) c) := by
  have hlen := m.len
  have hl := h.len
  have z : nth X (i + B.length) = 0 := by rw [m.up _ (Nat.le_refl _)]; exact h.zero _ (Nat.le_refl _)
  refine ⟨z, ⟨by simp; omega, m.wd.set _ m.c0 m.c1, ?_, ?_⟩⟩
  · intro j hj
    rw [nth_set_other _ _ _ _ (by omega), m.up j (by omega)]
    exact h.zero j (by omega)
  · have e := m.eq
    have e2 := h.eq
    rw [List.take_length] at e
    rw [val_set (by omega), z, val_at A i hi]
    grind
theorem mul_none_l (a1 : Option Addr) (c1 : Nat) (v : Value) (w : World) : Calls Tryz.prog 71 #[.slice a1 0 c1, v] w fun e w' => e = .returned (.slice none 0 0) ∧ w' = w := by
  go_enter Tryz.func71, Tryz.ntmps71
  go_wp2
  go_ret
  exact ⟨rfl, rfl⟩
theorem mul_none_r (a1 a2 : Option Addr) (n1 c1 c2 : Nat) (h : ((n1 : Int) == 0) = false) (w : World) : Calls Tryz.prog 71 #[.slice a1 n1 c1, .slice a2 0 c2] w fun e w' => e = .returned (.slice none 0 0) ∧ w' = w := by
  go_enter Tryz.func71, Tryz.ntmps71
  go_wp2
  go_ret
  exact ⟨rfl, rfl⟩
set_option maxHeartbeats 3200000 in
set_option maxRecDepth 100000 in
theorem mul_some (a1 a2 : Option Addr) (c1 c2 : Nat) (xs ys : List Int) (w : World) (hx : Wd xs) (hy : Wd ys) (g1 : 0 < xs.length → ∃ b o, a1 = some ⟨b, o, none⟩ ∧ Cells w b o xs) (g2 : 0 < ys.length → ∃ b o, a2 = some ⟨b, o, none⟩ ∧ Cells w b o ys) (p1 : 0 < xs.length) (p2 : 0 < ys.length) (l1 : xs.length ≤ 274877906944) (l2 : ys.length ≤ 274877906944) :
    Calls Tryz.prog 71 #[.slice a1 xs.length c1, .slice a2 ys.length c2] w fun e w' => ∃ v zs, e = .returned v ∧ Rd w' v zs ∧ Nm zs ∧ val zs = val xs * val ys ∧ Below w.heap.size w w' := by
  obtain ⟨b1, o1, rfl, q1⟩ := g1 p1
  obtain ⟨b2, o2, rfl, q2⟩ := g2 p2
  have hs1 : Hid (∀ w', Below w.heap.size w w' → Cells w' b1 o1 xs) := fun w' h => q1.grow h
  have hs2 : Hid (∀ w', Below w.heap.size w w' → Cells w' b2 o2 ys) := fun w' h => q2.grow h
  have z1 : ((xs.length : Int) == 0) = false := by rw [beq_eq_false_iff_ne]; omega
  have z2 : ((ys.length : Int) == 0) = false := by rw [beq_eq_false_iff_ne]; omega
  clear q1 q2 g1 g2
  obtain ⟨N, hN⟩ : ∃ N, N = xs.length + ys.length := ⟨_, rfl⟩
  have HN : Hid (N = xs.length + ys.length) := hN
  have nb : N ≤ 549755813888 := by omega
  have hw0 : IntKind.i64.wrap ((xs.length : Int) + ys.length) = (N : Int) := by rw [hN, wrap_self _ (by omega) (by omega)]; simp
  clear hN
  go_enter Tryz.func71, Tryz.ntmps71
  go_wp2_with (first
    | (at_make; refine wpList_make_words rfl _ _ rfl N _ _ rfl rfl rfl rfl (by omega) ?_; intro w1 k1 k2 k3 k4)
    | fail)
  go_loopw [6] (fun i wr => ∃ (k : Nat) (X : List Int), k ≤ xs.length ∧ i = .int .i64 k ∧ Mo xs ys k X ∧ Cells wr w.heap.size 0 X ∧ Wr w.heap.size 0 N w1 wr) (fun i _ => xs.length - (intOf i).toNat)
  case atStart => exact ⟨0, _, Nat.zero_le _, rfl, Mo.start xs ys, by rw [← HN.out]; exact k1, Wr.refl _ _ _ _⟩
  case round =>
    obtain ⟨i, X, hi, rfl, hMo, hc, hwr⟩ := hrel
    have hlX : Hid (X.length = xs.length + ys.length) := hMo.len
    by_cases hlt : i < xs.length
    · have HMo : Hid (Mo xs ys i X) := hMo
      clear hMo
      go_wp2_with fail
      go_loopw [7, 8] (fun c k wr => ∃ (k' : Nat) (cy : Int) (Y : List Int), k' ≤ ys.length ∧ c = .int .i64 cy ∧ k = .int .i64 k' ∧ Mu X ys i (nth xs i) k' cy Y ∧ Cells wr w.heap.size 0 Y ∧ Wr w.heap.size 0 N w1 wr) (fun _ k _ => ys.length - (intOf k).toNat)
      case atStart => exact ⟨0, 0, X, Nat.zero_le _, rfl, rfl, Mu.start HMo.out.wd, hc, hwr⟩
      case round =>
        clear hc hwr
        obtain ⟨k, cy, Y, hk, rfl, rfl, hMu, hc, hwr⟩ := hrel
        have hb := k3.trans (hwr.below (B := w.heap.size) (Nat.le_refl _) (by omega))
        have lY : Hid (Y.length = xs.length + ys.length) := hMu.len.trans hlX.out
        by_cases hlt2 : k < ys.length
        · have kx := hc.at (i := i + k) (by rw [lY.out]; omega)
          have kf := ((k2.wr hwr).free 0 N) (i + k) (by rw [HN.out]; omega)
          rw [Nat.zero_add] at kx kf
          have d1 := (hs1.out _ hb).at (i := i) hlt
          have d2 := (hs2.out _ hb).at (i := k) hlt2
          have y1 : (0 : Int) ≤ (i : Int) + k := by omega
          have y2 : ((i : Int) + k).toNat = i + k := by omega
          have y3 : IntKind.i64.wrap ((i : Int) + k) = (i : Int) + k := wrap_self _ (by omega) (by omega)
          have y4 : (i : Int) + k < N := by rw [HN.out]; omega
          have ba := nth_bd hx i
          have bb := nth_bd hy k
          have bY := nth_bd hMu.wd (i + k)
          obtain ⟨S, hS⟩ : ∃ S, cy + (nth Y (i + k) + nth xs i * nth ys k) = S := ⟨_, rfl⟩
          have NX : Hid (Mu X ys i (nth xs i) (k + 1) (S / 1073741824) (Y.set (i + k) (S % 1073741824))) := hMu.next hy ba.1 ba.2 hlt2 (by rw [hlX.out]; omega) hS.symm
          have bd := mu_bd ba.1 ba.2 bb.1 bb.2 bY.1 bY.2 hMu.c0 hMu.c1
          have c0 := hMu.c0
          generalize nth Y (i + k) = y at *
          generalize nth xs i = a at *
          generalize nth ys k = b at *
          have e1 : IntKind.i64.wrap (a * b) = a * b := wrap_self _ (by omega) (by omega)
          have e2 : IntKind.i64.wrap (y + a * b) = y + a * b := wrap_self _ (by omega) (by omega)
          have e3 : IntKind.i64.wrap (cy + (y + a * b)) = S := by rw [hS]; exact wrap_self _ (by omega) (by omega)
          have s0 : 0 ≤ S := by omega
          have s1 : S < 1152921504606846976 := by omega
          have e4 : S.tdiv 1073741824 = S / 1073741824 := Int.tdiv_eq_ediv_of_nonneg s0
          have e5 : S.tmod 1073741824 = S % 1073741824 := Int.tmod_eq_emod_of_nonneg s0
          have i6 : Hid (k + 1 ≤ ys.length) := hlt2
          have LN : Hid (∀ m, Cells ((wr.drewN m).setCell ⟨w.heap.size, i + k, none⟩ (.int .i64 (S % 1073741824))) w.heap.size 0 (Y.set (i + k) (S % 1073741824)) ∧ Wr w.heap.size 0 N w1 ((wr.drewN m).setCell ⟨w.heap.size, i + k, none⟩ (.int .i64 (S % 1073741824)))) := fun m => ⟨by have := Cells.set (w := wr.drewN m) hc (i + k) (by rw [lY.out]; omega) (S % 1073741824); simpa using this, (hwr.drewN m).setCell (i + k) (by rw [HN.out]; omega) _⟩
          clear hS bd ba bb bY hMu
          go_wp2_with fail
          go_quiet (fail)
          go_wp2
          go_roundw
          case rel => exact ⟨k + 1, _, _, i6.out, rfl, by go_num, NX.out, (LN.out _).1, (LN.out _).2⟩
          case measure => simp [intOf]; omega
        · have ek : k = ys.length := by omega
          subst ek
          obtain ⟨z, R⟩ := HMo.out.next hMu hlt
          have kx := hc.at (i := i + ys.length) (by rw [lY.out]; omega)
          have kf := ((k2.wr hwr).free 0 N) (i + ys.length) (by rw [HN.out]; omega)
          rw [Nat.zero_add] at kx kf
          rw [z] at kx
          have HR : Hid (Mo xs ys (i + 1) (Y.set (i + ys.length) cy)) := R
          have y1 : (0 : Int) ≤ (i : Int) + ys.length := by omega
          have y2 : ((i : Int) + ys.length).toNat = i + ys.length := by omega
          have y3 : IntKind.i64.wrap ((i : Int) + ys.length) = (i : Int) + ys.length := wrap_self _ (by omega) (by omega)
          have y4 : (i : Int) + ys.length < N := by rw [HN.out]; omega
          have e1 : IntKind.i64.wrap cy = cy := wrap_self _ (by have := hMu.c0; omega) (by have := hMu.c1; omega)
          have hlt3 : i + 1 ≤ xs.length := hlt
          have LN : Hid (Cells (wr.setCell ⟨w.heap.size, i + ys.length, none⟩ (.int .i64 cy)) w.heap.size 0 (Y.set (i + ys.length) cy) ∧ Wr w.heap.size 0 N w1 (wr.setCell ⟨w.heap.size, i + ys.length, none⟩ (.int .i64 cy))) := ⟨by have := Cells.set hc (i + ys.length) (by rw [lY.out]; omega) cy; simpa using this, hwr.setCell (i + ys.length) (by rw [HN.out]; omega) _⟩
          clear R hMu z
          go_wp2
          go_roundw
          case rel => exact ⟨i + 1, _, hlt3, by go_num, HR.out, LN.out.1, LN.out.2⟩
          case measure => simp [intOf]; omega
    · have ek : i = xs.length := by omega
      subst ek
      have hb := k3.trans (hwr.below (B := w.heap.size) (Nat.le_refl _) (by omega))
      have Rv : Hid (val X = val xs * val ys) := by
        have e := hMo.eq
        rw [List.take_length] at e; exact e
      have wX := hMo.wd
      have lX2 : Hid (N = X.length) := by show N = X.length; rw [HN.out, hlX.out]
      clear hMo
      go_wp2_with fail
      refine (norm_rd _ _ _ X wr lX2.out wX (by have := lX2.out; omega) (by omega) (fun _ => ⟨_, _, rfl, hc⟩)).mono ?_
      rintro e w' ⟨n, zs, rfl, hrd, hnm, hvz, rfl⟩
      have hvz' : Hid (val zs = val xs * val ys) := hvz.trans Rv.out
      clear hvz
      go_wp2
      go_ret
      exact ⟨_, zs, rfl, hrd, hnm, hvz'.out, hb⟩
/-- (Nat).Mul of the reference. -/
theorem Mul_any (v1 v2 : Value) (xs ys : List Int) (w : World) (h1 : Rd w v1 xs) (h2 : Rd w v2 ys) (l1 : xs.length ≤ 274877906944) (l2 : ys.length ≤ 274877906944) :
    Calls Tryz.prog 71 #[v1, v2] w fun e w' => ∃ v zs, e = .returned v ∧ Rd w' v zs ∧ Nm zs ∧ val zs = val xs * val ys ∧ Below w.heap.size w w' := by
  obtain ⟨hx, a1, c1, rfl, _, _, g1⟩ := h1
  obtain ⟨hy, a2, c2, rfl, _, _, g2⟩ := h2
  by_cases p1 : 0 < xs.length
  · by_cases p2 : 0 < ys.length
    · exact mul_some a1 a2 c1 c2 xs ys w hx hy g1 g2 p1 p2 l1 l2
    · have e0 : ys = [] := List.eq_nil_of_length_eq_zero (by omega)
      subst e0
      refine (mul_none_r a1 a2 xs.length c1 c2 (by rw [beq_eq_false_iff_ne]; omega) w).mono ?_
      rintro e w' ⟨rfl, rfl⟩
      exact ⟨_, [], rfl, rd_nil _, Or.inl rfl, by simp [val], Below.refl _ _⟩
  · have e0 : xs = [] := List.eq_nil_of_length_eq_zero (by omega)
    subst e0
    refine (mul_none_l a1 c1 _ w).mono ?_
    rintro e w' ⟨rfl, rfl⟩
    exact ⟨_, [], rfl, rd_nil _, Or.inl rfl, by simp [val], Below.refl _ _⟩
end Go.Proofs.YtfalncbcomlelaaGreatDoor.L
