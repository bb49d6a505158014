import Derived.Test.YtlngkonmalallaaPart08
import Derived.Test.YtlngkonmalallaaPart05

namespace Go.Proofs.Ytlngkonmalallaa
open Go.RowKit Tn

theorem w64 (x : Int) (h0 : -9223372036854775808 ≤ x) (h1 : x < 9223372036854775808) : IntKind.i64.wrap x = x := by
  simp [IntKind.wrap, IntKind.bits, IntKind.signed]; omega
theorem wu64 (x : Int) (h0 : 0 ≤ x) (h1 : x < 18446744073709551616) : IntKind.u64.wrap x = x := by
  rw [IntKind.wrap_u64]; omega
/-- Parts as a value. -/
abbrev prt4 (p : Int × Bool × Int × Int) : Value := prt p.1 p.2.1 p.2.2.1 p.2.2.2
theorem split_w (n : Nat) (hn : n < 18446744073709551616) (w : World) :
    Calls Try.prog 52 #[fmtW, .int .u64 n] w fun e w' => e = .returned (prt4 (splW n)) ∧ Below w.heap.size w w' := by
  have h1 : fdW n < 2048 := Nat.mod_lt _ (by decide)
  have h2 : frW n < 4503599627370496 := Nat.mod_lt _ (by decide)
  unfold splW
  split
  · split
    · exact split_w_inf n (fdW n) (frW n) (sgW n) (hgW n hn) (hdW n hn) (hfW n hn) (by omega) (by simp; omega) w
    · exact split_w_none n (fdW n) (frW n) (sgW n) (hgW n hn) (hdW n hn) (hfW n hn) (by omega) (by simp; omega) w
  · split
    · split
      · exact split_w_nought n (fdW n) (frW n) (sgW n) (hgW n hn) (hdW n hn) (hfW n hn) (by omega) (by simp; omega) w
      · exact split_w_small n (fdW n) (frW n) (sgW n) (hgW n hn) (hdW n hn) (hfW n hn) (by omega) (by simp; omega) w
    · have H := split_w_normal n (fdW n) (frW n) _ (sgW n) (hgW n hn) (hdW n hn) (hfW n hn) (by simp; omega) (by simp; omega) (horW _ h2) (w64 _ (by omega) (by omega)) (w64 _ (by omega) (by omega)) (w64 _ (by omega) (by omega)) w
      rw [show (fdW n : Int) - 1 + -1074 = (fdW n : Int) - 1 - 1074 from by omega] at H
      exact H
theorem Split_w (n : Nat) (hn : n < 18446744073709551616) (w : World) :
    Calls Try.prog 12 #[szW, .int .u64 n] w fun e w' => e = .returned (prt4 (splW n)) ∧ Below w.heap.size w w' := by
  have h1 : fdW n < 2048 := Nat.mod_lt _ (by decide)
  have h2 : frW n < 4503599627370496 := Nat.mod_lt _ (by decide)
  unfold splW
  split
  · split
    · exact Split_w_inf n (fdW n) (frW n) (sgW n) (hg2W n hn) (hdW n hn) (hfW n hn) (by omega) (by simp; omega) w
    · exact Split_w_none n (fdW n) (frW n) (sgW n) (hg2W n hn) (hdW n hn) (hfW n hn) (by omega) (by simp; omega) w
  · split
    · split
      · exact Split_w_nought n (fdW n) (frW n) (sgW n) (hg2W n hn) (hdW n hn) (hfW n hn) (by omega) (by simp; omega) w
      · exact Split_w_small n (fdW n) (frW n) (sgW n) (hg2W n hn) (hdW n hn) (hfW n hn) (by omega) (by simp; omega) w
    · have H := Split_w_normal n (fdW n) (frW n) _ (sgW n) (hg2W n hn) (hdW n hn) (hfW n hn) (by simp; omega) (by simp; omega) (wu64 _ (by omega) (by omega)) (w64 _ (by omega) (by omega)) (w64 _ (by omega) (by omega)) (w64 _ (by omega) (by omega)) w
      rw [show -1074 + (fdW n : Int) - 1 = (fdW n : Int) - 1 - 1074 from by omega] at H
      exact H
/-- What pack gives of any parts; of parts of a float its bits. -/
theorem pack_w (p : Int × Bool × Int × Int) (h0 : 0 ≤ p.2.2.1) (h1 : p.2.2.1 < 18446744073709551616) :
    ∃ N : Nat, N < 18446744073709551616 ∧ (OkW p → (N : Int) = pckW p) ∧ ∀ w : World, Calls Try.prog 98 #[fmtW, prt4 p] w fun e w' => e = .returned (.int .u64 N) ∧ Below w.heap.size w w' := by
  have fin : ∀ (r : Int), 0 ≤ r → r < 18446744073709551616 → (OkW p → r = pckW p) → (∀ w : World, Calls Try.prog 98 #[fmtW, prt4 p] w (fun e w' => e = .returned (.int .u64 r) ∧ Below w.heap.size w w')) →
      ∃ N : Nat, N < 18446744073709551616 ∧ (OkW p → (N : Int) = pckW p) ∧ ∀ w : World, Calls Try.prog 98 #[fmtW, prt4 p] w fun e w' => e = .returned (.int .u64 N) ∧ Below w.heap.size w w' := by
    intro r r0 r1 r2 H
    obtain ⟨N, rfl⟩ := Int.eq_ofNat_of_zero_le r0
    exact ⟨N, by omega, r2, H⟩
  obtain ⟨k, g, m, e⟩ := p
  simp only at h0 h1
  obtain ⟨M, rfl⟩ := Int.eq_ofNat_of_zero_le h0
  by_cases k1 : k = 1
  · subst k1
    cases g
    · exact fin M h0 h1 (by intro; simp [pckW]) (pack_w_small_pos M e)
    · refine fin _ (bits_or_bd _ _).1 (bits_or_bd _ _).2 (fun o => ?_) (pack_w_small_neg M e _ rfl)
      simp [OkW] at o
      rw [hsgW M (by omega)]; simp [pckW]
  by_cases k2 : k = 2
  · subst k2
    have nm : OkW (2, g, (M : Int), e) → bits .or .u64 (IntKind.u64.wrap (IntKind.u64.wrap (IntKind.i64.wrap (IntKind.i64.wrap (e + 1074) + 1)) * 4503599627370496)) (bits .andNot .u64 M 4503599627370496) = (e + 1075) * 4503599627370496 + (M - 4503599627370496) ∧ 0 ≤ e + 1075 ∧ e + 1075 < 2048 ∧ 4503599627370496 ≤ M ∧ M < 9007199254740992 := by
      intro o
      simp [OkW] at o
      obtain ⟨D, hD⟩ := Int.eq_ofNat_of_zero_le (show 0 ≤ e + 1075 by omega)
      have a := bits_andNot_pow M 4503599627370496 52 (by decide) (by decide) (by omega) (by omega)
      rw [show ((4503599627370496 : Nat) : Int) = 4503599627370496 from rfl] at a
      rw [w64 (e + 1074) (by omega) (by omega), w64 _ (by omega) (by omega), show e + 1074 + 1 = (D : Int) from by omega, wu64 (D : Int) (by omega) (by omega), wu64 _ (by omega) (by omega), a, hpkW D _ (by omega) (by omega)]
      omega
    cases g
    · refine fin _ (bits_or_bd _ _).1 (bits_or_bd _ _).2 (fun o => ?_) (pack_w_normal_pos _ _ _ _ _ _ M e rfl rfl rfl rfl rfl rfl)
      rw [(nm o).1]; simp [pckW]
    · refine fin _ (bits_or_bd _ _).1 (bits_or_bd _ _).2 (fun o => ?_) (pack_w_normal_neg _ _ _ _ _ _ M e _ rfl rfl rfl rfl rfl rfl rfl)
      obtain ⟨a, b, c, d, f⟩ := nm o
      rw [a]
      obtain ⟨Q, hQ⟩ := Int.eq_ofNat_of_zero_le (show 0 ≤ (e + 1075) * 4503599627370496 + ((M : Int) - 4503599627370496) by omega)
      rw [hQ, hsgW Q (by omega), ← hQ]; simp [pckW]
  by_cases k3 : k = 3
  · subst k3
    cases g
    · exact fin _ (by decide) (by decide) (by intro; simp [pckW]) (pack_w_inf_pos M e)
    · exact fin 18442240474082181120 (by decide) (by decide) (by intro; simp [pckW]) (pack_w_inf_neg M e _ (by decide))
  by_cases k4 : k = 4
  · subst k4
    cases g
    · exact fin _ (by decide) (by decide) (by intro; simp [pckW]) (pack_w_none_pos M e)
    · refine fin _ (bits_or_bd _ _).1 (bits_or_bd _ _).2 (fun o => ?_) (pack_w_none_neg M e _ rfl)
      simp [OkW] at o
  · have b1 : (k == 1) = false := by simp [k1]
    have b2 : (k == 2) = false := by simp [k2]
    have b3 : (k == 3) = false := by simp [k3]
    have b4 : (k == 4) = false := by simp [k4]
    cases g
    · exact fin 0 (by decide) (by decide) (by intro; simp [pckW, k1, k2, k3, k4]) (pack_w_else_pos k M e b1 b2 b3 b4)
    · exact fin 9223372036854775808 (by decide) (by decide) (by intro; simp [pckW, k1, k2, k3, k4]) (pack_w_else_neg k M e _ b1 b2 b3 b4 (by decide))
theorem split_s (n : Nat) (hn : n < 18446744073709551616) (w : World) :
    Calls Try.prog 52 #[fmtS, .int .u64 n] w fun e w' => e = .returned (prt4 (splS n)) ∧ Below w.heap.size w w' := by
  have h1 : fdS n < 256 := Nat.mod_lt _ (by decide)
  have h2 : frS n < 8388608 := Nat.mod_lt _ (by decide)
  unfold splS
  split
  · split
    · exact split_s_inf n (fdS n) (frS n) (sgS n) (hgS n hn) (hdS n hn) (hfS n hn) (by omega) (by simp; omega) w
    · exact split_s_none n (fdS n) (frS n) (sgS n) (hgS n hn) (hdS n hn) (hfS n hn) (by omega) (by simp; omega) w
  · split
    · split
      · exact split_s_nought n (fdS n) (frS n) (sgS n) (hgS n hn) (hdS n hn) (hfS n hn) (by omega) (by simp; omega) w
      · exact split_s_small n (fdS n) (frS n) (sgS n) (hgS n hn) (hdS n hn) (hfS n hn) (by omega) (by simp; omega) w
    · have H := split_s_normal n (fdS n) (frS n) _ (sgS n) (hgS n hn) (hdS n hn) (hfS n hn) (by simp; omega) (by simp; omega) (horS _ h2) (w64 _ (by omega) (by omega)) (w64 _ (by omega) (by omega)) (w64 _ (by omega) (by omega)) w
      rw [show (fdS n : Int) - 1 + -149 = (fdS n : Int) - 1 - 149 from by omega] at H
      exact H
theorem Split_s (n : Nat) (hn : n < 18446744073709551616) (w : World) :
    Calls Try.prog 12 #[szS, .int .u64 n] w fun e w' => e = .returned (prt4 (splS n)) ∧ Below w.heap.size w w' := by
  have h1 : fdS n < 256 := Nat.mod_lt _ (by decide)
  have h2 : frS n < 8388608 := Nat.mod_lt _ (by decide)
  unfold splS
  split
  · split
    · exact Split_s_inf n (fdS n) (frS n) (sgS n) (hg2S n hn) (hdS n hn) (hfS n hn) (by omega) (by simp; omega) w
    · exact Split_s_none n (fdS n) (frS n) (sgS n) (hg2S n hn) (hdS n hn) (hfS n hn) (by omega) (by simp; omega) w
  · split
    · split
      · exact Split_s_nought n (fdS n) (frS n) (sgS n) (hg2S n hn) (hdS n hn) (hfS n hn) (by omega) (by simp; omega) w
      · exact Split_s_small n (fdS n) (frS n) (sgS n) (hg2S n hn) (hdS n hn) (hfS n hn) (by omega) (by simp; omega) w
    · have H := Split_s_normal n (fdS n) (frS n) _ (sgS n) (hg2S n hn) (hdS n hn) (hfS n hn) (by simp; omega) (by simp; omega) (wu64 _ (by omega) (by omega)) (w64 _ (by omega) (by omega)) (w64 _ (by omega) (by omega)) (w64 _ (by omega) (by omega)) w
      rw [show -149 + (fdS n : Int) - 1 = (fdS n : Int) - 1 - 149 from by omega] at H
      exact H
/-- What pack gives of any parts; of parts of a small float its bits. -/
theorem pack_s (p : Int × Bool × Int × Int) (h0 : 0 ≤ p.2.2.1) (h1 : p.2.2.1 < 18446744073709551616) :
    ∃ N : Nat, N < 18446744073709551616 ∧ (OkS p → (N : Int) = pckS p) ∧ ∀ w : World, Calls Try.prog 98 #[fmtS, prt4 p] w fun e w' => e = .returned (.int .u64 N) ∧ Below w.heap.size w w' := by
  have fin : ∀ (r : Int), 0 ≤ r → r < 18446744073709551616 → (OkS p → r = pckS p) → (∀ w : World, Calls Try.prog 98 #[fmtS, prt4 p] w (fun e w' => e = .returned (.int .u64 r) ∧ Below w.heap.size w w')) →
      ∃ N : Nat, N < 18446744073709551616 ∧ (OkS p → (N : Int) = pckS p) ∧ ∀ w : World, Calls Try.prog 98 #[fmtS, prt4 p] w fun e w' => e = .returned (.int .u64 N) ∧ Below w.heap.size w w' := by
    intro r r0 r1 r2 H
    obtain ⟨N, rfl⟩ := Int.eq_ofNat_of_zero_le r0
    exact ⟨N, by omega, r2, H⟩
  obtain ⟨k, g, m, e⟩ := p
  simp only at h0 h1
  obtain ⟨M, rfl⟩ := Int.eq_ofNat_of_zero_le h0
  by_cases k1 : k = 1
  · subst k1
    cases g
    · exact fin M h0 h1 (by intro; simp [pckS]) (pack_s_small_pos M e)
    · refine fin _ (bits_or_bd _ _).1 (bits_or_bd _ _).2 (fun o => ?_) (pack_s_small_neg M e _ rfl)
      simp [OkS] at o
      rw [hsgS M (by omega)]; simp [pckS]
  by_cases k2 : k = 2
  · subst k2
    have nm : OkS (2, g, (M : Int), e) → bits .or .u64 (IntKind.u64.wrap (IntKind.u64.wrap (IntKind.i64.wrap (IntKind.i64.wrap (e + 149) + 1)) * 8388608)) (bits .andNot .u64 M 8388608) = (e + 150) * 8388608 + (M - 8388608) ∧ 0 ≤ e + 150 ∧ e + 150 < 256 ∧ 8388608 ≤ M ∧ M < 16777216 := by
      intro o
      simp [OkS] at o
      obtain ⟨D, hD⟩ := Int.eq_ofNat_of_zero_le (show 0 ≤ e + 150 by omega)
      have a := bits_andNot_pow M 8388608 23 (by decide) (by decide) (by omega) (by omega)
      rw [show ((8388608 : Nat) : Int) = 8388608 from rfl] at a
      rw [w64 (e + 149) (by omega) (by omega), w64 _ (by omega) (by omega), show e + 149 + 1 = (D : Int) from by omega, wu64 (D : Int) (by omega) (by omega), wu64 _ (by omega) (by omega), a, hpkS D _ (by omega) (by omega)]
      omega
    cases g
    · refine fin _ (bits_or_bd _ _).1 (bits_or_bd _ _).2 (fun o => ?_) (pack_s_normal_pos _ _ _ _ _ _ M e rfl rfl rfl rfl rfl rfl)
      rw [(nm o).1]; simp [pckS]
    · refine fin _ (bits_or_bd _ _).1 (bits_or_bd _ _).2 (fun o => ?_) (pack_s_normal_neg _ _ _ _ _ _ M e _ rfl rfl rfl rfl rfl rfl rfl)
      obtain ⟨a, b, c, d, f⟩ := nm o
      rw [a]
      obtain ⟨Q, hQ⟩ := Int.eq_ofNat_of_zero_le (show 0 ≤ (e + 150) * 8388608 + ((M : Int) - 8388608) by omega)
      rw [hQ, hsgS Q (by omega), ← hQ]; simp [pckS]
  by_cases k3 : k = 3
  · subst k3
    cases g
    · exact fin _ (by decide) (by decide) (by intro; simp [pckS]) (pack_s_inf_pos M e)
    · exact fin 4286578688 (by decide) (by decide) (by intro; simp [pckS]) (pack_s_inf_neg M e _ (by decide))
  by_cases k4 : k = 4
  · subst k4
    cases g
    · exact fin _ (by decide) (by decide) (by intro; simp [pckS]) (pack_s_none_pos M e)
    · refine fin _ (bits_or_bd _ _).1 (bits_or_bd _ _).2 (fun o => ?_) (pack_s_none_neg M e _ rfl)
      simp [OkS] at o
  · have b1 : (k == 1) = false := by simp [k1]
    have b2 : (k == 2) = false := by simp [k2]
    have b3 : (k == 3) = false := by simp [k3]
    have b4 : (k == 4) = false := by simp [k4]
    cases g
    · exact fin 0 (by decide) (by decide) (by intro; simp [pckS, k1, k2, k3, k4]) (pack_s_else_pos k M e b1 b2 b3 b4)
    · exact fin 2147483648 (by decide) (by decide) (by intro; simp [pckS, k1, k2, k3, k4]) (pack_s_else_neg k M e _ b1 b2 b3 b4 (by decide))
end Go.Proofs.Ytlngkonmalallaa

namespace Go.Proofs.Ytlngkonmalallaa
open Go.RowKit Tn

/-- It can be told. -/
def okWTold (p : Int × Bool × Int × Int) : Decidable (OkW p) := by unfold OkW; infer_instance
/-- What is put together of parts: the bits, and 0; or 0, and ErrParts. -/
def joiW (p : Int × Bool × Int × Int) : Int × Int := @ite (Int × Int) (OkW p) (okWTold p) (pckW p, 0) (0, 21)
set_option maxRecDepth 100000 in
set_option maxHeartbeats 1600000 in
theorem join_w_walk (k : Int) (g : Bool) (m e N : Int) (k' : Int) (g' : Bool) (m' e' : Int) (t : Bool)
    (hp : ∀ w : World, Calls Try.prog 98 #[fmtW, prt k g m e] w fun e w' => e = .returned (.int .u64 N) ∧ Below w.heap.size w w')
    (hs : ∀ w : World, Calls Try.prog 52 #[fmtW, .int .u64 N] w fun e w' => e = .returned (prt k' g' m' e') ∧ Below w.heap.size w w')
    (ht : ((k' == k) = false ∧ t = false) ∨ (k' = k ∧ (g' == g) = false ∧ t = false) ∨ (k' = k ∧ g' = g ∧ (m' == m) = false ∧ t = false) ∨ (k' = k ∧ g' = g ∧ m' = m ∧ (e' == e) = false ∧ t = false) ∨ (k' = k ∧ g' = g ∧ m' = m ∧ e' = e ∧ t = true)) (w : World) :
    Calls Try.prog 58 #[fmtW, prt k g m e] w fun x w' => x = .returned (.tuple #[.int .u64 (bif t then N else 0), .int .i64 (bif t then 0 else 21)]) ∧ Below w.heap.size w w' := by
  rcases ht with ⟨t1, rfl⟩ | ⟨rfl, t1, rfl⟩ | ⟨rfl, rfl, t1, rfl⟩ | ⟨rfl, rfl, rfl, t1, rfl⟩ | ⟨rfl, rfl, rfl, rfl, rfl⟩
  · go_enter Try.func58, Try.ntmps58
    have K0 : Blk ((w.alloc (.cells #[.int .i64 53, .int .i64 (-1074), .int .i64 971] 85)).alloc (.cells #[.int .i64 k, .bool g, .int .u64 m, .int .i64 e] 25)) w.heap.size #[.int .i64 53, .int .i64 (-1074), .int .i64 971] 85 := (Blk.new w _ _).alloc _
    have K1 := Blk.new (w.alloc (.cells #[.int .i64 53, .int .i64 (-1074), .int .i64 971] 85)) #[.int .i64 k, .bool g, .int .u64 m, .int .i64 e] 25
    have pr : Below w.heap.size w ((w.alloc (.cells #[.int .i64 53, .int .i64 (-1074), .int .i64 971] 85)).alloc (.cells #[.int .i64 k, .bool g, .int .u64 m, .int .i64 e] 25)) := ((Below.refl _ _).alloc (Nat.le_refl _) _).alloc (by simp) _
    simp only [World.size_alloc] at K1
    go_wp2_with (first
      | (go_at_call 98; refine (hp _).mono ?_; rintro e w1 ⟨rfl, b1⟩; replace K0 := K0.below b1 K0.lt; replace K1 := K1.below b1 K1.lt; replace pr := bel pr b1; clear b1; have e0 : w1.cell? ⟨w.heap.size, 0, none⟩ = some (.int .i64 53) := K0.at 0; have e1 : w1.cell? ⟨w.heap.size, 1, none⟩ = some (.int .i64 (-1074)) := K0.at 1; have e2 : w1.cell? ⟨w.heap.size, 2, none⟩ = some (.int .i64 971) := K0.at 2; have c0 : w1.cell? ⟨w.heap.size + 1, 0, none⟩ = some (.int .i64 k) := K1.at 0; have c1 : w1.cell? ⟨w.heap.size + 1, 1, none⟩ = some (.bool g) := K1.at 1; have c2 : w1.cell? ⟨w.heap.size + 1, 2, none⟩ = some (.int .u64 m) := K1.at 2; have c3 : w1.cell? ⟨w.heap.size + 1, 3, none⟩ = some (.int .i64 e) := K1.at 3)
      | fail)
    go_region_held3 (fun x => x.cell? ⟨w.heap.size, 0, none⟩ = some (.int .i64 53) ∧ x.cell? ⟨w.heap.size, 1, none⟩ = some (.int .i64 (-1074)) ∧ x.cell? ⟨w.heap.size, 2, none⟩ = some (.int .i64 971) ∧ x.cell? ⟨w.heap.size + 1, 0, none⟩ = some (.int .i64 k) ∧ x.cell? ⟨w.heap.size + 1, 1, none⟩ = some (.bool g) ∧ x.cell? ⟨w.heap.size + 1, 2, none⟩ = some (.int .u64 m) ∧ x.cell? ⟨w.heap.size + 1, 3, none⟩ = some (.int .i64 e)) (go_keep) (first
      | (go_at_call 52; refine (hs _).mono ?_; rintro e w2 ⟨rfl, b2⟩; replace K0 := K0.below (below_undrew b2) K0.lt; replace K1 := K1.below (below_undrew b2) K1.lt; replace pr := bel pr (below_undrew b2); clear b2; have e0 : w2.cell? ⟨w.heap.size, 0, none⟩ = some (.int .i64 53) := K0.at 0; have e1 : w2.cell? ⟨w.heap.size, 1, none⟩ = some (.int .i64 (-1074)) := K0.at 1; have e2 : w2.cell? ⟨w.heap.size, 2, none⟩ = some (.int .i64 971) := K0.at 2; have c0 : w2.cell? ⟨w.heap.size + 1, 0, none⟩ = some (.int .i64 k) := K1.at 0; have c1 : w2.cell? ⟨w.heap.size + 1, 1, none⟩ = some (.bool g) := K1.at 1; have c2 : w2.cell? ⟨w.heap.size + 1, 2, none⟩ = some (.int .u64 m) := K1.at 2; have c3 : w2.cell? ⟨w.heap.size + 1, 3, none⟩ = some (.int .i64 e) := K1.at 3)
      | fail)
    go_wp2
    exact bodyPost_ret (v := .tuple #[.int .u64 0, .int .i64 21]) (by simp [results, Try.results58, go_sem]) rfl ⟨rfl, pr⟩
  · go_enter Try.func58, Try.ntmps58
    have K0 : Blk ((w.alloc (.cells #[.int .i64 53, .int .i64 (-1074), .int .i64 971] 85)).alloc (.cells #[.int .i64 k', .bool g, .int .u64 m, .int .i64 e] 25)) w.heap.size #[.int .i64 53, .int .i64 (-1074), .int .i64 971] 85 := (Blk.new w _ _).alloc _
    have K1 := Blk.new (w.alloc (.cells #[.int .i64 53, .int .i64 (-1074), .int .i64 971] 85)) #[.int .i64 k', .bool g, .int .u64 m, .int .i64 e] 25
    have pr : Below w.heap.size w ((w.alloc (.cells #[.int .i64 53, .int .i64 (-1074), .int .i64 971] 85)).alloc (.cells #[.int .i64 k', .bool g, .int .u64 m, .int .i64 e] 25)) := ((Below.refl _ _).alloc (Nat.le_refl _) _).alloc (by simp) _
    simp only [World.size_alloc] at K1
    go_wp2_with (first
      | (go_at_call 98; refine (hp _).mono ?_; rintro e w1 ⟨rfl, b1⟩; replace K0 := K0.below b1 K0.lt; replace K1 := K1.below b1 K1.lt; replace pr := bel pr b1; clear b1; have e0 : w1.cell? ⟨w.heap.size, 0, none⟩ = some (.int .i64 53) := K0.at 0; have e1 : w1.cell? ⟨w.heap.size, 1, none⟩ = some (.int .i64 (-1074)) := K0.at 1; have e2 : w1.cell? ⟨w.heap.size, 2, none⟩ = some (.int .i64 971) := K0.at 2; have c0 : w1.cell? ⟨w.heap.size + 1, 0, none⟩ = some (.int .i64 k') := K1.at 0; have c1 : w1.cell? ⟨w.heap.size + 1, 1, none⟩ = some (.bool g) := K1.at 1; have c2 : w1.cell? ⟨w.heap.size + 1, 2, none⟩ = some (.int .u64 m) := K1.at 2; have c3 : w1.cell? ⟨w.heap.size + 1, 3, none⟩ = some (.int .i64 e) := K1.at 3)
      | fail)
    go_region_held3 (fun x => x.cell? ⟨w.heap.size, 0, none⟩ = some (.int .i64 53) ∧ x.cell? ⟨w.heap.size, 1, none⟩ = some (.int .i64 (-1074)) ∧ x.cell? ⟨w.heap.size, 2, none⟩ = some (.int .i64 971) ∧ x.cell? ⟨w.heap.size + 1, 0, none⟩ = some (.int .i64 k') ∧ x.cell? ⟨w.heap.size + 1, 1, none⟩ = some (.bool g) ∧ x.cell? ⟨w.heap.size + 1, 2, none⟩ = some (.int .u64 m) ∧ x.cell? ⟨w.heap.size + 1, 3, none⟩ = some (.int .i64 e)) (go_keep) (first
      | (go_at_call 52; refine (hs _).mono ?_; rintro e w2 ⟨rfl, b2⟩; replace K0 := K0.below (below_undrew b2) K0.lt; replace K1 := K1.below (below_undrew b2) K1.lt; replace pr := bel pr (below_undrew b2); clear b2; have e0 : w2.cell? ⟨w.heap.size, 0, none⟩ = some (.int .i64 53) := K0.at 0; have e1 : w2.cell? ⟨w.heap.size, 1, none⟩ = some (.int .i64 (-1074)) := K0.at 1; have e2 : w2.cell? ⟨w.heap.size, 2, none⟩ = some (.int .i64 971) := K0.at 2; have c0 : w2.cell? ⟨w.heap.size + 1, 0, none⟩ = some (.int .i64 k') := K1.at 0; have c1 : w2.cell? ⟨w.heap.size + 1, 1, none⟩ = some (.bool g) := K1.at 1; have c2 : w2.cell? ⟨w.heap.size + 1, 2, none⟩ = some (.int .u64 m) := K1.at 2; have c3 : w2.cell? ⟨w.heap.size + 1, 3, none⟩ = some (.int .i64 e) := K1.at 3)
      | fail)
    go_wp2
    exact bodyPost_ret (v := .tuple #[.int .u64 0, .int .i64 21]) (by simp [results, Try.results58, go_sem]) rfl ⟨rfl, pr⟩
  · go_enter Try.func58, Try.ntmps58
    have K0 : Blk ((w.alloc (.cells #[.int .i64 53, .int .i64 (-1074), .int .i64 971] 85)).alloc (.cells #[.int .i64 k', .bool g', .int .u64 m, .int .i64 e] 25)) w.heap.size #[.int .i64 53, .int .i64 (-1074), .int .i64 971] 85 := (Blk.new w _ _).alloc _
    have K1 := Blk.new (w.alloc (.cells #[.int .i64 53, .int .i64 (-1074), .int .i64 971] 85)) #[.int .i64 k', .bool g', .int .u64 m, .int .i64 e] 25
    have pr : Below w.heap.size w ((w.alloc (.cells #[.int .i64 53, .int .i64 (-1074), .int .i64 971] 85)).alloc (.cells #[.int .i64 k', .bool g', .int .u64 m, .int .i64 e] 25)) := ((Below.refl _ _).alloc (Nat.le_refl _) _).alloc (by simp) _
    simp only [World.size_alloc] at K1
    go_wp2_with (first
      | (go_at_call 98; refine (hp _).mono ?_; rintro e w1 ⟨rfl, b1⟩; replace K0 := K0.below b1 K0.lt; replace K1 := K1.below b1 K1.lt; replace pr := bel pr b1; clear b1; have e0 : w1.cell? ⟨w.heap.size, 0, none⟩ = some (.int .i64 53) := K0.at 0; have e1 : w1.cell? ⟨w.heap.size, 1, none⟩ = some (.int .i64 (-1074)) := K0.at 1; have e2 : w1.cell? ⟨w.heap.size, 2, none⟩ = some (.int .i64 971) := K0.at 2; have c0 : w1.cell? ⟨w.heap.size + 1, 0, none⟩ = some (.int .i64 k') := K1.at 0; have c1 : w1.cell? ⟨w.heap.size + 1, 1, none⟩ = some (.bool g') := K1.at 1; have c2 : w1.cell? ⟨w.heap.size + 1, 2, none⟩ = some (.int .u64 m) := K1.at 2; have c3 : w1.cell? ⟨w.heap.size + 1, 3, none⟩ = some (.int .i64 e) := K1.at 3)
      | fail)
    go_region_held3 (fun x => x.cell? ⟨w.heap.size, 0, none⟩ = some (.int .i64 53) ∧ x.cell? ⟨w.heap.size, 1, none⟩ = some (.int .i64 (-1074)) ∧ x.cell? ⟨w.heap.size, 2, none⟩ = some (.int .i64 971) ∧ x.cell? ⟨w.heap.size + 1, 0, none⟩ = some (.int .i64 k') ∧ x.cell? ⟨w.heap.size + 1, 1, none⟩ = some (.bool g') ∧ x.cell? ⟨w.heap.size + 1, 2, none⟩ = some (.int .u64 m) ∧ x.cell? ⟨w.heap.size + 1, 3, none⟩ = some (.int .i64 e)) (go_keep) (first
      | (go_at_call 52; refine (hs _).mono ?_; rintro e w2 ⟨rfl, b2⟩; replace K0 := K0.below (below_undrew b2) K0.lt; replace K1 := K1.below (below_undrew b2) K1.lt; replace pr := bel pr (below_undrew b2); clear b2; have e0 : w2.cell? ⟨w.heap.size, 0, none⟩ = some (.int .i64 53) := K0.at 0; have e1 : w2.cell? ⟨w.heap.size, 1, none⟩ = some (.int .i64 (-1074)) := K0.at 1; have e2 : w2.cell? ⟨w.heap.size, 2, none⟩ = some (.int .i64 971) := K0.at 2; have c0 : w2.cell? ⟨w.heap.size + 1, 0, none⟩ = some (.int .i64 k') := K1.at 0; have c1 : w2.cell? ⟨w.heap.size + 1, 1, none⟩ = some (.bool g') := K1.at 1; have c2 : w2.cell? ⟨w.heap.size + 1, 2, none⟩ = some (.int .u64 m) := K1.at 2; have c3 : w2.cell? ⟨w.heap.size + 1, 3, none⟩ = some (.int .i64 e) := K1.at 3)
      | fail)
    go_wp2
    exact bodyPost_ret (v := .tuple #[.int .u64 0, .int .i64 21]) (by simp [results, Try.results58, go_sem]) rfl ⟨rfl, pr⟩
  · go_enter Try.func58, Try.ntmps58
    have K0 : Blk ((w.alloc (.cells #[.int .i64 53, .int .i64 (-1074), .int .i64 971] 85)).alloc (.cells #[.int .i64 k', .bool g', .int .u64 m', .int .i64 e] 25)) w.heap.size #[.int .i64 53, .int .i64 (-1074), .int .i64 971] 85 := (Blk.new w _ _).alloc _
    have K1 := Blk.new (w.alloc (.cells #[.int .i64 53, .int .i64 (-1074), .int .i64 971] 85)) #[.int .i64 k', .bool g', .int .u64 m', .int .i64 e] 25
    have pr : Below w.heap.size w ((w.alloc (.cells #[.int .i64 53, .int .i64 (-1074), .int .i64 971] 85)).alloc (.cells #[.int .i64 k', .bool g', .int .u64 m', .int .i64 e] 25)) := ((Below.refl _ _).alloc (Nat.le_refl _) _).alloc (by simp) _
    simp only [World.size_alloc] at K1
    go_wp2_with (first
      | (go_at_call 98; refine (hp _).mono ?_; rintro e w1 ⟨rfl, b1⟩; replace K0 := K0.below b1 K0.lt; replace K1 := K1.below b1 K1.lt; replace pr := bel pr b1; clear b1; have e0 : w1.cell? ⟨w.heap.size, 0, none⟩ = some (.int .i64 53) := K0.at 0; have e1 : w1.cell? ⟨w.heap.size, 1, none⟩ = some (.int .i64 (-1074)) := K0.at 1; have e2 : w1.cell? ⟨w.heap.size, 2, none⟩ = some (.int .i64 971) := K0.at 2; have c0 : w1.cell? ⟨w.heap.size + 1, 0, none⟩ = some (.int .i64 k') := K1.at 0; have c1 : w1.cell? ⟨w.heap.size + 1, 1, none⟩ = some (.bool g') := K1.at 1; have c2 : w1.cell? ⟨w.heap.size + 1, 2, none⟩ = some (.int .u64 m') := K1.at 2; have c3 : w1.cell? ⟨w.heap.size + 1, 3, none⟩ = some (.int .i64 e) := K1.at 3)
      | fail)
    go_region_held3 (fun x => x.cell? ⟨w.heap.size, 0, none⟩ = some (.int .i64 53) ∧ x.cell? ⟨w.heap.size, 1, none⟩ = some (.int .i64 (-1074)) ∧ x.cell? ⟨w.heap.size, 2, none⟩ = some (.int .i64 971) ∧ x.cell? ⟨w.heap.size + 1, 0, none⟩ = some (.int .i64 k') ∧ x.cell? ⟨w.heap.size + 1, 1, none⟩ = some (.bool g') ∧ x.cell? ⟨w.heap.size + 1, 2, none⟩ = some (.int .u64 m') ∧ x.cell? ⟨w.heap.size + 1, 3, none⟩ = some (.int .i64 e)) (go_keep) (first
      | (go_at_call 52; refine (hs _).mono ?_; rintro e w2 ⟨rfl, b2⟩; replace K0 := K0.below (below_undrew b2) K0.lt; replace K1 := K1.below (below_undrew b2) K1.lt; replace pr := bel pr (below_undrew b2); clear b2; have e0 : w2.cell? ⟨w.heap.size, 0, none⟩ = some (.int .i64 53) := K0.at 0; have e1 : w2.cell? ⟨w.heap.size, 1, none⟩ = some (.int .i64 (-1074)) := K0.at 1; have e2 : w2.cell? ⟨w.heap.size, 2, none⟩ = some (.int .i64 971) := K0.at 2; have c0 : w2.cell? ⟨w.heap.size + 1, 0, none⟩ = some (.int .i64 k') := K1.at 0; have c1 : w2.cell? ⟨w.heap.size + 1, 1, none⟩ = some (.bool g') := K1.at 1; have c2 : w2.cell? ⟨w.heap.size + 1, 2, none⟩ = some (.int .u64 m') := K1.at 2; have c3 : w2.cell? ⟨w.heap.size + 1, 3, none⟩ = some (.int .i64 e) := K1.at 3)
      | fail)
    go_wp2
    exact bodyPost_ret (v := .tuple #[.int .u64 0, .int .i64 21]) (by simp [results, Try.results58, go_sem]) rfl ⟨rfl, pr⟩
  · go_enter Try.func58, Try.ntmps58
    have K0 : Blk ((w.alloc (.cells #[.int .i64 53, .int .i64 (-1074), .int .i64 971] 85)).alloc (.cells #[.int .i64 k', .bool g', .int .u64 m', .int .i64 e'] 25)) w.heap.size #[.int .i64 53, .int .i64 (-1074), .int .i64 971] 85 := (Blk.new w _ _).alloc _
    have K1 := Blk.new (w.alloc (.cells #[.int .i64 53, .int .i64 (-1074), .int .i64 971] 85)) #[.int .i64 k', .bool g', .int .u64 m', .int .i64 e'] 25
    have pr : Below w.heap.size w ((w.alloc (.cells #[.int .i64 53, .int .i64 (-1074), .int .i64 971] 85)).alloc (.cells #[.int .i64 k', .bool g', .int .u64 m', .int .i64 e'] 25)) := ((Below.refl _ _).alloc (Nat.le_refl _) _).alloc (by simp) _
    simp only [World.size_alloc] at K1
    go_wp2_with (first
      | (go_at_call 98; refine (hp _).mono ?_; rintro e w1 ⟨rfl, b1⟩; replace K0 := K0.below b1 K0.lt; replace K1 := K1.below b1 K1.lt; replace pr := bel pr b1; clear b1; have e0 : w1.cell? ⟨w.heap.size, 0, none⟩ = some (.int .i64 53) := K0.at 0; have e1 : w1.cell? ⟨w.heap.size, 1, none⟩ = some (.int .i64 (-1074)) := K0.at 1; have e2 : w1.cell? ⟨w.heap.size, 2, none⟩ = some (.int .i64 971) := K0.at 2; have c0 : w1.cell? ⟨w.heap.size + 1, 0, none⟩ = some (.int .i64 k') := K1.at 0; have c1 : w1.cell? ⟨w.heap.size + 1, 1, none⟩ = some (.bool g') := K1.at 1; have c2 : w1.cell? ⟨w.heap.size + 1, 2, none⟩ = some (.int .u64 m') := K1.at 2; have c3 : w1.cell? ⟨w.heap.size + 1, 3, none⟩ = some (.int .i64 e') := K1.at 3)
      | fail)
    go_region_held3 (fun x => x.cell? ⟨w.heap.size, 0, none⟩ = some (.int .i64 53) ∧ x.cell? ⟨w.heap.size, 1, none⟩ = some (.int .i64 (-1074)) ∧ x.cell? ⟨w.heap.size, 2, none⟩ = some (.int .i64 971) ∧ x.cell? ⟨w.heap.size + 1, 0, none⟩ = some (.int .i64 k') ∧ x.cell? ⟨w.heap.size + 1, 1, none⟩ = some (.bool g') ∧ x.cell? ⟨w.heap.size + 1, 2, none⟩ = some (.int .u64 m') ∧ x.cell? ⟨w.heap.size + 1, 3, none⟩ = some (.int .i64 e')) (go_keep) (first
      | (go_at_call 52; refine (hs _).mono ?_; rintro e w2 ⟨rfl, b2⟩; replace K0 := K0.below (below_undrew b2) K0.lt; replace K1 := K1.below (below_undrew b2) K1.lt; replace pr := bel pr (below_undrew b2); clear b2; have e0 : w2.cell? ⟨w.heap.size, 0, none⟩ = some (.int .i64 53) := K0.at 0; have e1 : w2.cell? ⟨w.heap.size, 1, none⟩ = some (.int .i64 (-1074)) := K0.at 1; have e2 : w2.cell? ⟨w.heap.size, 2, none⟩ = some (.int .i64 971) := K0.at 2; have c0 : w2.cell? ⟨w.heap.size + 1, 0, none⟩ = some (.int .i64 k') := K1.at 0; have c1 : w2.cell? ⟨w.heap.size + 1, 1, none⟩ = some (.bool g') := K1.at 1; have c2 : w2.cell? ⟨w.heap.size + 1, 2, none⟩ = some (.int .u64 m') := K1.at 2; have c3 : w2.cell? ⟨w.heap.size + 1, 3, none⟩ = some (.int .i64 e') := K1.at 3)
      | fail)
    go_wp2
    exact bodyPost_ret (v := .tuple #[.int .u64 N, .int .i64 0]) (by simp [results, Try.results58, go_sem]) rfl ⟨rfl, pr⟩
theorem join_w (p : Int × Bool × Int × Int) (h0 : 0 ≤ p.2.2.1) (h1 : p.2.2.1 < 18446744073709551616) (w : World) :
    Calls Try.prog 58 #[fmtW, prt4 p] w fun x w' => x = .returned (.tuple #[.int .u64 (joiW p).1, .int .i64 (joiW p).2]) ∧ Below w.heap.size w w' := by
  obtain ⟨N, n1, n2, P⟩ := pack_w p h0 h1
  have S := split_w N n1
  have o' := splW_ok N
  obtain ⟨k, g, m, e⟩ := p
  generalize hq : splW N = q at S o'
  obtain ⟨k', g', m', e'⟩ := q
  by_cases o : OkW (k, g, m, e)
  · have E : splW N = (k, g, m, e) := by
      have h := splW_pck o
      rw [← n2 o, Int.toNat_natCast] at h
      exact h
    rw [hq] at E
    simp only [Prod.mk.injEq] at E
    obtain ⟨rfl, rfl, rfl, rfl⟩ := E
    have H := join_w_walk k' g' m' e' N k' g' m' e' true P S (Or.inr (Or.inr (Or.inr (Or.inr ⟨rfl, rfl, rfl, rfl, rfl⟩)))) w
    rw [n2 o] at H
    unfold joiW
    rw [if_pos o]
    exact H
  · have ne : ¬ (k' = k ∧ g' = g ∧ m' = m ∧ e' = e) := by
      rintro ⟨rfl, rfl, rfl, rfl⟩
      exact o o'
    unfold joiW
    rw [if_neg o]
    refine join_w_walk k g m e N k' g' m' e' false P S ?_ w
    by_cases a1 : k' = k
    · by_cases a2 : g' = g
      · by_cases a3 : m' = m
        · exact Or.inr (Or.inr (Or.inr (Or.inl ⟨a1, a2, a3, by simp; exact fun h => ne ⟨a1, a2, a3, h⟩, rfl⟩)))
        · exact Or.inr (Or.inr (Or.inl ⟨a1, a2, by simp [a3], rfl⟩))
      · exact Or.inr (Or.inl ⟨a1, by simp [a2], rfl⟩)
    · exact Or.inl ⟨by simp [a1], rfl⟩
/-- It can be told. -/
def okSTold (p : Int × Bool × Int × Int) : Decidable (OkS p) := by unfold OkS; infer_instance
/-- What is put together of parts: the bits, and 0; or 0, and ErrParts. -/
def joiS (p : Int × Bool × Int × Int) : Int × Int := @ite (Int × Int) (OkS p) (okSTold p) (pckS p, 0) (0, 21)
set_option maxRecDepth 100000 in
set_option maxHeartbeats 1600000 in
theorem join_s_walk (k : Int) (g : Bool) (m e N : Int) (k' : Int) (g' : Bool) (m' e' : Int) (t : Bool)
    (hp : ∀ w : World, Calls Try.prog 98 #[fmtS, prt k g m e] w fun e w' => e = .returned (.int .u64 N) ∧ Below w.heap.size w w')
    (hs : ∀ w : World, Calls Try.prog 52 #[fmtS, .int .u64 N] w fun e w' => e = .returned (prt k' g' m' e') ∧ Below w.heap.size w w')
    (ht : ((k' == k) = false ∧ t = false) ∨ (k' = k ∧ (g' == g) = false ∧ t = false) ∨ (k' = k ∧ g' = g ∧ (m' == m) = false ∧ t = false) ∨ (k' = k ∧ g' = g ∧ m' = m ∧ (e' == e) = false ∧ t = false) ∨ (k' = k ∧ g' = g ∧ m' = m ∧ e' = e ∧ t = true)) (w : World) :
    Calls Try.prog 58 #[fmtS, prt k g m e] w fun x w' => x = .returned (.tuple #[.int .u64 (bif t then N else 0), .int .i64 (bif t then 0 else 21)]) ∧ Below w.heap.size w w' := by
  rcases ht with ⟨t1, rfl⟩ | ⟨rfl, t1, rfl⟩ | ⟨rfl, rfl, t1, rfl⟩ | ⟨rfl, rfl, rfl, t1, rfl⟩ | ⟨rfl, rfl, rfl, rfl, rfl⟩
  · go_enter Try.func58, Try.ntmps58
    have K0 : Blk ((w.alloc (.cells #[.int .i64 24, .int .i64 (-149), .int .i64 104] 85)).alloc (.cells #[.int .i64 k, .bool g, .int .u64 m, .int .i64 e] 25)) w.heap.size #[.int .i64 24, .int .i64 (-149), .int .i64 104] 85 := (Blk.new w _ _).alloc _
    have K1 := Blk.new (w.alloc (.cells #[.int .i64 24, .int .i64 (-149), .int .i64 104] 85)) #[.int .i64 k, .bool g, .int .u64 m, .int .i64 e] 25
    have pr : Below w.heap.size w ((w.alloc (.cells #[.int .i64 24, .int .i64 (-149), .int .i64 104] 85)).alloc (.cells #[.int .i64 k, .bool g, .int .u64 m, .int .i64 e] 25)) := ((Below.refl _ _).alloc (Nat.le_refl _) _).alloc (by simp) _
    simp only [World.size_alloc] at K1
    go_wp2_with (first
      | (go_at_call 98; refine (hp _).mono ?_; rintro e w1 ⟨rfl, b1⟩; replace K0 := K0.below b1 K0.lt; replace K1 := K1.below b1 K1.lt; replace pr := bel pr b1; clear b1; have e0 : w1.cell? ⟨w.heap.size, 0, none⟩ = some (.int .i64 24) := K0.at 0; have e1 : w1.cell? ⟨w.heap.size, 1, none⟩ = some (.int .i64 (-149)) := K0.at 1; have e2 : w1.cell? ⟨w.heap.size, 2, none⟩ = some (.int .i64 104) := K0.at 2; have c0 : w1.cell? ⟨w.heap.size + 1, 0, none⟩ = some (.int .i64 k) := K1.at 0; have c1 : w1.cell? ⟨w.heap.size + 1, 1, none⟩ = some (.bool g) := K1.at 1; have c2 : w1.cell? ⟨w.heap.size + 1, 2, none⟩ = some (.int .u64 m) := K1.at 2; have c3 : w1.cell? ⟨w.heap.size + 1, 3, none⟩ = some (.int .i64 e) := K1.at 3)
      | fail)
    go_region_held3 (fun x => x.cell? ⟨w.heap.size, 0, none⟩ = some (.int .i64 24) ∧ x.cell? ⟨w.heap.size, 1, none⟩ = some (.int .i64 (-149)) ∧ x.cell? ⟨w.heap.size, 2, none⟩ = some (.int .i64 104) ∧ x.cell? ⟨w.heap.size + 1, 0, none⟩ = some (.int .i64 k) ∧ x.cell? ⟨w.heap.size + 1, 1, none⟩ = some (.bool g) ∧ x.cell? ⟨w.heap.size + 1, 2, none⟩ = some (.int .u64 m) ∧ x.cell? ⟨w.heap.size + 1, 3, none⟩ = some (.int .i64 e)) (go_keep) (first
      | (go_at_call 52; refine (hs _).mono ?_; rintro e w2 ⟨rfl, b2⟩; replace K0 := K0.below (below_undrew b2) K0.lt; replace K1 := K1.below (below_undrew b2) K1.lt; replace pr := bel pr (below_undrew b2); clear b2; have e0 : w2.cell? ⟨w.heap.size, 0, none⟩ = some (.int .i64 24) := K0.at 0; have e1 : w2.cell? ⟨w.heap.size, 1, none⟩ = some (.int .i64 (-149)) := K0.at 1; have e2 : w2.cell? ⟨w.heap.size, 2, none⟩ = some (.int .i64 104) := K0.at 2; have c0 : w2.cell? ⟨w.heap.size + 1, 0, none⟩ = some (.int .i64 k) := K1.at 0; have c1 : w2.cell? ⟨w.heap.size + 1, 1, none⟩ = some (.bool g) := K1.at 1; have c2 : w2.cell? ⟨w.heap.size + 1, 2, none⟩ = some (.int .u64 m) := K1.at 2; have c3 : w2.cell? ⟨w.heap.size + 1, 3, none⟩ = some (.int .i64 e) := K1.at 3)
      | fail)
    go_wp2
    exact bodyPost_ret (v := .tuple #[.int .u64 0, .int .i64 21]) (by simp [results, Try.results58, go_sem]) rfl ⟨rfl, pr⟩
  · go_enter Try.func58, Try.ntmps58
    have K0 : Blk ((w.alloc (.cells #[.int .i64 24, .int .i64 (-149), .int .i64 104] 85)).alloc (.cells #[.int .i64 k', .bool g, .int .u64 m, .int .i64 e] 25)) w.heap.size #[.int .i64 24, .int .i64 (-149), .int .i64 104] 85 := (Blk.new w _ _).alloc _
    have K1 := Blk.new (w.alloc (.cells #[.int .i64 24, .int .i64 (-149), .int .i64 104] 85)) #[.int .i64 k', .bool g, .int .u64 m, .int .i64 e] 25
    have pr : Below w.heap.size w ((w.alloc (.cells #[.int .i64 24, .int .i64 (-149), .int .i64 104] 85)).alloc (.cells #[.int .i64 k', .bool g, .int .u64 m, .int .i64 e] 25)) := ((Below.refl _ _).alloc (Nat.le_refl _) _).alloc (by simp) _
    simp only [World.size_alloc] at K1
    go_wp2_with (first
      | (go_at_call 98; refine (hp _).mono ?_; rintro e w1 ⟨rfl, b1⟩; replace K0 := K0.below b1 K0.lt; replace K1 := K1.below b1 K1.lt; replace pr := bel pr b1; clear b1; have e0 : w1.cell? ⟨w.heap.size, 0, none⟩ = some (.int .i64 24) := K0.at 0; have e1 : w1.cell? ⟨w.heap.size, 1, none⟩ = some (.int .i64 (-149)) := K0.at 1; have e2 : w1.cell? ⟨w.heap.size, 2, none⟩ = some (.int .i64 104) := K0.at 2; have c0 : w1.cell? ⟨w.heap.size + 1, 0, none⟩ = some (.int .i64 k') := K1.at 0; have c1 : w1.cell? ⟨w.heap.size + 1, 1, none⟩ = some (.bool g) := K1.at 1; have c2 : w1.cell? ⟨w.heap.size + 1, 2, none⟩ = some (.int .u64 m) := K1.at 2; have c3 : w1.cell? ⟨w.heap.size + 1, 3, none⟩ = some (.int .i64 e) := K1.at 3)
      | fail)
    go_region_held3 (fun x => x.cell? ⟨w.heap.size, 0, none⟩ = some (.int .i64 24) ∧ x.cell? ⟨w.heap.size, 1, none⟩ = some (.int .i64 (-149)) ∧ x.cell? ⟨w.heap.size, 2, none⟩ = some (.int .i64 104) ∧ x.cell? ⟨w.heap.size + 1, 0, none⟩ = some (.int .i64 k') ∧ x.cell? ⟨w.heap.size + 1, 1, none⟩ = some (.bool g) ∧ x.cell? ⟨w.heap.size + 1, 2, none⟩ = some (.int .u64 m) ∧ x.cell? ⟨w.heap.size + 1, 3, none⟩ = some (.int .i64 e)) (go_keep) (first
      | (go_at_call 52; refine (hs _).mono ?_; rintro e w2 ⟨rfl, b2⟩; replace K0 := K0.below (below_undrew b2) K0.lt; replace K1 := K1.below (below_undrew b2) K1.lt; replace pr := bel pr (below_undrew b2); clear b2; have e0 : w2.cell? ⟨w.heap.size, 0, none⟩ = some (.int .i64 24) := K0.at 0; have e1 : w2.cell? ⟨w.heap.size, 1, none⟩ = some (.int .i64 (-149)) := K0.at 1; have e2 : w2.cell? ⟨w.heap.size, 2, none⟩ = some (.int .i64 104) := K0.at 2; have c0 : w2.cell? ⟨w.heap.size + 1, 0, none⟩ = some (.int .i64 k') := K1.at 0; have c1 : w2.cell? ⟨w.heap.size + 1, 1, none⟩ = some (.bool g) := K1.at 1; have c2 : w2.cell? ⟨w.heap.size + 1, 2, none⟩ = some (.int .u64 m) := K1.at 2; have c3 : w2.cell? ⟨w.heap.size + 1, 3, none⟩ = some (.int .i64 e) := K1.at 3)
      | fail)
    go_wp2
    exact bodyPost_ret (v := .tuple #[.int .u64 0, .int .i64 21]) (by simp [results, Try.results58, go_sem]) rfl ⟨rfl, pr⟩
  · go_enter Try.func58, Try.ntmps58
    have K0 : Blk ((w.alloc (.cells #[.int .i64 24, .int .i64 (-149), .int .i64 104] 85)).alloc (.cells #[.int .i64 k', .bool g', .int .u64 m, .int .i64 e] 25)) w.heap.size #[.int .i64 24, .int .i64 (-149), .int .i64 104] 85 := (Blk.new w _ _).alloc _
    have K1 := Blk.new (w.alloc (.cells #[.int .i64 24, .int .i64 (-149), .int .i64 104] 85)) #[.int .i64 k', .bool g', .int .u64 m, .int .i64 e] 25
    have pr : Below w.heap.size w ((w.alloc (.cells #[.int .i64 24, .int .i64 (-149), .int .i64 104] 85)).alloc (.cells #[.int .i64 k', .bool g', .int .u64 m, .int .i64 e] 25)) := ((Below.refl _ _).alloc (Nat.le_refl _) _).alloc (by simp) _
    simp only [World.size_alloc] at K1
    go_wp2_with (first
      | (go_at_call 98; refine (hp _).mono ?_; rintro e w1 ⟨rfl, b1⟩; replace K0 := K0.below b1 K0.lt; replace K1 := K1.below b1 K1.lt; replace pr := bel pr b1; clear b1; have e0 : w1.cell? ⟨w.heap.size, 0, none⟩ = some (.int .i64 24) := K0.at 0; have e1 : w1.cell? ⟨w.heap.size, 1, none⟩ = some (.int .i64 (-149)) := K0.at 1; have e2 : w1.cell? ⟨w.heap.size, 2, none⟩ = some (.int .i64 104) := K0.at 2; have c0 : w1.cell? ⟨w.heap.size + 1, 0, none⟩ = some (.int .i64 k') := K1.at 0; have c1 : w1.cell? ⟨w.heap.size + 1, 1, none⟩ = some (.bool g') := K1.at 1; have c2 : w1.cell? ⟨w.heap.size + 1, 2, none⟩ = some (.int .u64 m) := K1.at 2; have c3 : w1.cell? ⟨w.heap.size + 1, 3, none⟩ = some (.int .i64 e) := K1.at 3)
      | fail)
    go_region_held3 (fun x => x.cell? ⟨w.heap.size, 0, none⟩ = some (.int .i64 24) ∧ x.cell? ⟨w.heap.size, 1, none⟩ = some (.int .i64 (-149)) ∧ x.cell? ⟨w.heap.size, 2, none⟩ = some (.int .i64 104) ∧ x.cell? ⟨w.heap.size + 1, 0, none⟩ = some (.int .i64 k') ∧ x.cell? ⟨w.heap.size + 1, 1, none⟩ = some (.bool g') ∧ x.cell? ⟨w.heap.size + 1, 2, none⟩ = some (.int .u64 m) ∧ x.cell? ⟨w.heap.size + 1, 3, none⟩ = some (.int .i64 e)) (go_keep) (first
      | (go_at_call 52; refine (hs _).mono ?_; rintro e w2 ⟨rfl, b2⟩; replace K0 := K0.below (below_undrew b2) K0.lt; replace K1 := K1.below (below_undrew b2) K1.lt; replace pr := bel pr (below_undrew b2); clear b2; have e0 : w2.cell? ⟨w.heap.size, 0, none⟩ = some (.int .i64 24) := K0.at 0; have e1 : w2.cell? ⟨w.heap.size, 1, none⟩ = some (.int .i64 (-149)) := K0.at 1; have e2 : w2.cell? ⟨w.heap.size, 2, none⟩ = some (.int .i64 104) := K0.at 2; have c0 : w2.cell? ⟨w.heap.size + 1, 0, none⟩ = some (.int .i64 k') := K1.at 0; have c1 : w2.cell? ⟨w.heap.size + 1, 1, none⟩ = some (.bool g') := K1.at 1; have c2 : w2.cell? ⟨w.heap.size + 1, 2, none⟩ = some (.int .u64 m) := K1.at 2; have c3 : w2.cell? ⟨w.heap.size + 1, 3, none⟩ = some (.int .i64 e) := K1.at 3)
      | fail)
    go_wp2
    exact bodyPost_ret (v := .tuple #[.int .u64 0, .int .i64 21]) (by simp [results, Try.results58, go_sem]) rfl ⟨rfl, pr⟩
  · go_enter Try.func58, Try.ntmps58
    have K0 : Blk ((w.alloc (.cells #[.int .i64 24, .int .i64 (-149), .int .i64 104] 85)).alloc (.cells #[.int .i64 k', .bool g', .int .u64 m', .int .i64 e] 25)) w.heap.size #[.int .i64 24, .int .i64 (-149), .int .i64 104] 85 := (Blk.new w _ _).alloc _
    have K1 := Blk.new (w.alloc (.cells #[.int .i64 24, .int .i64 (-149), .int .i64 104] 85)) #[.int .i64 k', .bool g', .int .u64 m', .int .i64 e] 25
    have pr : Below w.heap.size w ((w.alloc (.cells #[.int .i64 24, .int .i64 (-149), .int .i64 104] 85)).alloc (.cells #[.int .i64 k', .bool g', .int .u64 m', .int .i64 e] 25)) := ((Below.refl _ _).alloc (Nat.le_refl _) _).alloc (by simp) _
    simp only [World.size_alloc] at K1
    go_wp2_with (first
      | (go_at_call 98; refine (hp _).mono ?_; rintro e w1 ⟨rfl, b1⟩; replace K0 := K0.below b1 K0.lt; replace K1 := K1.below b1 K1.lt; replace pr := bel pr b1; clear b1; have e0 : w1.cell? ⟨w.heap.size, 0, none⟩ = some (.int .i64 24) := K0.at 0; have e1 : w1.cell? ⟨w.heap.size, 1, none⟩ = some (.int .i64 (-149)) := K0.at 1; have e2 : w1.cell? ⟨w.heap.size, 2, none⟩ = some (.int .i64 104) := K0.at 2; have c0 : w1.cell? ⟨w.heap.size + 1, 0, none⟩ = some (.int .i64 k') := K1.at 0; have c1 : w1.cell? ⟨w.heap.size + 1, 1, none⟩ = some (.bool g') := K1.at 1; have c2 : w1.cell? ⟨w.heap.size + 1, 2, none⟩ = some (.int .u64 m') := K1.at 2; have c3 : w1.cell? ⟨w.heap.size + 1, 3, none⟩ = some (.int .i64 e) := K1.at 3)
      | fail)
    go_region_held3 (fun x => x.cell? ⟨w.heap.size, 0, none⟩ = some (.int .i64 24) ∧ x.cell? ⟨w.heap.size, 1, none⟩ = some (.int .i64 (-149)) ∧ x.cell? ⟨w.heap.size, 2, none⟩ = some (.int .i64 104) ∧ x.cell? ⟨w.heap.size + 1, 0, none⟩ = some (.int .i64 k') ∧ x.cell? ⟨w.heap.size + 1, 1, none⟩ = some (.bool g') ∧ x.cell? ⟨w.heap.size + 1, 2, none⟩ = some (.int .u64 m') ∧ x.cell? ⟨w.heap.size + 1, 3, none⟩ = some (.int .i64 e)) (go_keep) (first
      | (go_at_call 52; refine (hs _).mono ?_; rintro e w2 ⟨rfl, b2⟩; replace K0 := K0.below (below_undrew b2) K0.lt; replace K1 := K1.below (below_undrew b2) K1.lt; replace pr := bel pr (below_undrew b2); clear b2; have e0 : w2.cell? ⟨w.heap.size, 0, none⟩ = some (.int .i64 24) := K0.at 0; have e1 : w2.cell? ⟨w.heap.size, 1, none⟩ = some (.int .i64 (-149)) := K0.at 1; have e2 : w2.cell? ⟨w.heap.size, 2, none⟩ = some (.int .i64 104) := K0.at 2; have c0 : w2.cell? ⟨w.heap.size + 1, 0, none⟩ = some (.int .i64 k') := K1.at 0; have c1 : w2.cell? ⟨w.heap.size + 1, 1, none⟩ = some (.bool g') := K1.at 1; have c2 : w2.cell? ⟨w.heap.size + 1, 2, none⟩ = some (.int .u64 m') := K1.at 2; have c3 : w2.cell? ⟨w.heap.size + 1, 3, none⟩ = some (.int .i64 e) := K1.at 3)
      | fail)
    go_wp2
    exact bodyPost_ret (v := .tuple #[.int .u64 0, .int .i64 21]) (by simp [results, Try.results58, go_sem]) rfl ⟨rfl, pr⟩
  · go_enter Try.func58, Try.ntmps58
    have K0 : Blk ((w.alloc (.cells #[.int .i64 24, .int .i64 (-149), .int .i64 104] 85)).alloc (.cells #[.int .i64 k', .bool g', .int .u64 m', .int .i64 e'] 25)) w.heap.size #[.int .i64 24, .int .i64 (-149), .int .i64 104] 85 := (Blk.new w _ _).alloc _
    have K1 := Blk.new (w.alloc (.cells #[.int .i64 24, .int .i64 (-149), .int .i64 104] 85)) #[.int .i64 k', .bool g', .int .u64 m', .int .i64 e'] 25
    have pr : Below w.heap.size w ((w.alloc (.cells #[.int .i64 24, .int .i64 (-149), .int .i64 104] 85)).alloc (.cells #[.int .i64 k', .bool g', .int .u64 m', .int .i64 e'] 25)) := ((Below.refl _ _).alloc (Nat.le_refl _) _).alloc (by simp) _
    simp only [World.size_alloc] at K1
    go_wp2_with (first
      | (go_at_call 98; refine (hp _).mono ?_; rintro e w1 ⟨rfl, b1⟩; replace K0 := K0.below b1 K0.lt; replace K1 := K1.below b1 K1.lt; replace pr := bel pr b1; clear b1; have e0 : w1.cell? ⟨w.heap.size, 0, none⟩ = some (.int .i64 24) := K0.at 0; have e1 : w1.cell? ⟨w.heap.size, 1, none⟩ = some (.int .i64 (-149)) := K0.at 1; have e2 : w1.cell? ⟨w.heap.size, 2, none⟩ = some (.int .i64 104) := K0.at 2; have c0 : w1.cell? ⟨w.heap.size + 1, 0, none⟩ = some (.int .i64 k') := K1.at 0; have c1 : w1.cell? ⟨w.heap.size + 1, 1, none⟩ = some (.bool g') := K1.at 1; have c2 : w1.cell? ⟨w.heap.size + 1, 2, none⟩ = some (.int .u64 m') := K1.at 2; have c3 : w1.cell? ⟨w.heap.size + 1, 3, none⟩ = some (.int .i64 e') := K1.at 3)
      | fail)
    go_region_held3 (fun x => x.cell? ⟨w.heap.size, 0, none⟩ = some (.int .i64 24) ∧ x.cell? ⟨w.heap.size, 1, none⟩ = some (.int .i64 (-149)) ∧ x.cell? ⟨w.heap.size, 2, none⟩ = some (.int .i64 104) ∧ x.cell? ⟨w.heap.size + 1, 0, none⟩ = some (.int .i64 k') ∧ x.cell? ⟨w.heap.size + 1, 1, none⟩ = some (.bool g') ∧ x.cell? ⟨w.heap.size + 1, 2, none⟩ = some (.int .u64 m') ∧ x.cell? ⟨w.heap.size + 1, 3, none⟩ = some (.int .i64 e')) (go_keep) (first
      | (go_at_call 52; refine (hs _).mono ?_; rintro e w2 ⟨rfl, b2⟩; replace K0 := K0.below (below_undrew b2) K0.lt; replace K1 := K1.below (below_undrew b2) K1.lt; replace pr := bel pr (below_undrew b2); clear b2; have e0 : w2.cell? ⟨w.heap.size, 0, none⟩ = some (.int .i64 24) := K0.at 0; have e1 : w2.cell? ⟨w.heap.size, 1, none⟩ = some (.int .i64 (-149)) := K0.at 1; have e2 : w2.cell? ⟨w.heap.size, 2, none⟩ = some (.int .i64 104) := K0.at 2; have c0 : w2.cell? ⟨w.heap.size + 1, 0, none⟩ = some (.int .i64 k') := K1.at 0; have c1 : w2.cell? ⟨w.heap.size + 1, 1, none⟩ = some (.bool g') := K1.at 1; have c2 : w2.cell? ⟨w.heap.size + 1, 2, none⟩ = some (.int .u64 m') := K1.at 2; have c3 : w2.cell? ⟨w.heap.size + 1, 3, none⟩ = some (.int .i64 e') := K1.at 3)
      | fail)
    go_wp2
    exact bodyPost_ret (v := .tuple #[.int .u64 N, .int .i64 0]) (by simp [results, Try.results58, go_sem]) rfl ⟨rfl, pr⟩
theorem join_s (p : Int × Bool × Int × Int) (h0 : 0 ≤ p.2.2.1) (h1 : p.2.2.1 < 18446744073709551616) (w : World) :
    Calls Try.prog 58 #[fmtS, prt4 p] w fun x w' => x = .returned (.tuple #[.int .u64 (joiS p).1, .int .i64 (joiS p).2]) ∧ Below w.heap.size w w' := by
  obtain ⟨N, n1, n2, P⟩ := pack_s p h0 h1
  have S := split_s N n1
  have o' := splS_ok N
  obtain ⟨k, g, m, e⟩ := p
  generalize hq : splS N = q at S o'
  obtain ⟨k', g', m', e'⟩ := q
  by_cases o : OkS (k, g, m, e)
  · have E : splS N = (k, g, m, e) := by
      have h := splS_pck o
      rw [← n2 o, Int.toNat_natCast] at h
      exact h
    rw [hq] at E
    simp only [Prod.mk.injEq] at E
    obtain ⟨rfl, rfl, rfl, rfl⟩ := E
    have H := join_s_walk k' g' m' e' N k' g' m' e' true P S (Or.inr (Or.inr (Or.inr (Or.inr ⟨rfl, rfl, rfl, rfl, rfl⟩)))) w
    rw [n2 o] at H
    unfold joiS
    rw [if_pos o]
    exact H
  · have ne : ¬ (k' = k ∧ g' = g ∧ m' = m ∧ e' = e) := by
      rintro ⟨rfl, rfl, rfl, rfl⟩
      exact o o'
    unfold joiS
    rw [if_neg o]
    refine join_s_walk k g m e N k' g' m' e' false P S ?_ w
    by_cases a1 : k' = k
    · by_cases a2 : g' = g
      · by_cases a3 : m' = m
        · exact Or.inr (Or.inr (Or.inr (Or.inl ⟨a1, a2, a3, by simp; exact fun h => ne ⟨a1, a2, a3, h⟩, rfl⟩)))
        · exact Or.inr (Or.inr (Or.inl ⟨a1, a2, by simp [a3], rfl⟩))
      · exact Or.inr (Or.inl ⟨a1, by simp [a2], rfl⟩)
    · exact Or.inl ⟨by simp [a1], rfl⟩
end Go.Proofs.Ytlngkonmalallaa
