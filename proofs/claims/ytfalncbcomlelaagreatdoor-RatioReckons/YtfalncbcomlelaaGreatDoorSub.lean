import Derived.Test.YtfalncbcomlelaaGreatDoorAdd
namespace Go.Proofs.YtfalncbcomlelaaGreatDoor
open Go.RowKit Tn

theorem bor_word {x y b : Int} (hx : 0 ≤ x ∧ x < 18446744073709551616) (hy : 0 ≤ y ∧ y < 18446744073709551616) (hb : 0 ≤ b ∧ b ≤ 1) : 0 ≤ x - y - b + 18446744073709551616 * bor x (y + b) ∧ x - y - b + 18446744073709551616 * bor x (y + b) < 18446744073709551616 := by
  unfold bor; split <;> omega
theorem sub_step {X S W : List Int} {k : Nat} {c : Int} (h : Part X S k) (hW : Wd W) (hk : k < W.length) (hk' : k < S.length) (h0 : 0 ≤ c) (h1 : c ≤ 1) (hv : val (X.take k) = val (S.take k) - val (W.take k) + pw k * c) :
    Part (X.set k (nth X k - nth W k - c + 18446744073709551616 * bor (nth X k) (nth W k + c))) S (k + 1) ∧ 0 ≤ bor (nth X k) (nth W k + c) ∧ bor (nth X k) (nth W k + c) ≤ 1 ∧
    val ((X.set k (nth X k - nth W k - c + 18446744073709551616 * bor (nth X k) (nth W k + c))).take (k + 1)) = val (S.take (k + 1)) - val (W.take (k + 1)) + pw (k + 1) * bor (nth X k) (nth W k + c) := by
  have b1 := nth_bd hW k
  have b2 := nth_bd h.wd k
  have b3 := bor_word b2 b1 ⟨h0, h1⟩
  refine ⟨h.step b3.1 b3.2, (bor_bd _ _).1, (bor_bd _ _).2, ?_⟩
  rw [h.val hk', val_at S k hk', val_at W k hk, h.nth]
  simp only [pw]
  grind
theorem borrow_step {X S : List Int} {k : Nat} {c N : Int} (h : Part X S k) (hk' : k < S.length) (h0 : 0 ≤ c) (h1 : c ≤ 1) (hv : val (X.take k) = val (S.take k) - N + pw k * c) :
    Part (X.set k (nth X k - c + 18446744073709551616 * bor (nth X k) c)) S (k + 1) ∧ 0 ≤ bor (nth X k) c ∧ bor (nth X k) c ≤ 1 ∧
    val ((X.set k (nth X k - c + 18446744073709551616 * bor (nth X k) c)).take (k + 1)) = val (S.take (k + 1)) - N + pw (k + 1) * bor (nth X k) c := by
  have b2 := nth_bd h.wd k
  have b3 := bor_word (x := nth X k) (y := 0) (b := c) b2 ⟨by omega, by omega⟩ ⟨h0, h1⟩
  simp only [Int.sub_zero, Int.zero_add] at b3
  refine ⟨h.step b3.1 b3.2, (bor_bd _ _).1, (bor_bd _ _).2, ?_⟩
  rw [h.val hk', val_at S k hk', h.nth]
  simp only [pw]
  grind
theorem sub_end {X S : List Int} {k : Nat} {c N : Int} (h : Part X S k) (hk : k ≤ S.length) (hc : c = 0 ∨ k = S.length) (h0 : 0 ≤ c) (hN : N ≤ val S) (hv : val (X.take k) = val (S.take k) - N + pw k * c) : val X = val S - N := by
  have e := h.whole hk
  rcases hc with rfl | rfl
  · simp only [Int.mul_zero] at hv; omega
  · rw [← h.len, List.take_length] at hv
    rw [h.len, List.take_length] at hv
    have b1 := val_lt h.wd
    rw [h.len] at b1
    have : c = 0 := by
      by_cases hc : c = 0
      · exact hc
      · have := Int.mul_le_mul_of_nonneg_left (show 1 ≤ c by omega) (Int.le_of_lt (pw_pos S.length)); omega
    rw [this] at hv; omega

set_option maxHeartbeats 1600000 in
set_option maxRecDepth 100000 in
theorem sub_all (a1 a2 : Option Addr) (c1 c2 : Nat) (xs ys : List Int) (w : World) (hx : Wd xs) (hy : Wd ys) (hle : ys.length ≤ xs.length) (hN : val ys ≤ val xs) (hL : xs.length ≤ 549755813888) (h1 : 0 < xs.length → ∃ b o, a1 = some ⟨b, o, none⟩ ∧ Cells w b o xs) (h2 : 0 < ys.length → ∃ b o, a2 = some ⟨b, o, none⟩ ∧ Cells w b o ys) :
    Calls Tryz.prog 110 #[.agg #[.slice a1 xs.length c1], .agg #[.slice a2 ys.length c2]] w fun e w' => ∃ r zs, e = .returned (.agg #[r]) ∧ Rd w' r zs ∧ Nm zs ∧ val zs = val xs - val ys ∧ Below w.heap.size w w' := by
  have hs : Hid (∀ w', Below w.heap.size w w' → 0 < xs.length → ∃ b o, a1 = some ⟨b, o, none⟩ ∧ Cells w' b o xs) := fun w' h l => by obtain ⟨b, o, e, c⟩ := h1 l; exact ⟨b, o, e, c.grow h⟩
  have hs2 : Hid (∀ w', Below w.heap.size w w' → 0 < ys.length → ∃ b o, a2 = some ⟨b, o, none⟩ ∧ b ≠ w.heap.size + 1 + 1 + 1 ∧ Cells w' b o ys) := fun w' h l => by obtain ⟨b, o, e, c⟩ := h2 l; exact ⟨b, o, e, by have := c.lt l; omega, c.grow h⟩
  clear h1 h2
  go_enter Tryz.func110, Tryz.ntmps110
  go_wp2_with (first
    | (at_make; refine wpList_make_words rfl _ _ rfl xs.length _ _ rfl rfl rfl rfl (by omega) ?_; intro w1 k1 k2 k3 k4; have X0 := (((Bx.new w _ _).alloc _).alloc _).below k3; have X1 := ((Bx.new _ _ _).alloc _).below k3; have X2 := (Bx.new _ _ _).below k3; simp only [World.size_alloc] at X1 X2 k1 k2 k3 k4; have q0 := below_alloc3 k3; clear k3; have x0 := X0.1)
    | ((with_reducible refine at_copy ?_); refine wpList_copy_words rfl _ _ rfl (List.replicate xs.length 0) xs _ 0 _ a1 _ _ _ rfl rfl (by simp) rfl (by simp) k1 k2 (fun l => hs.out w1 q0 l) ?_; intro w2 k5 k6; rw [List.drop_of_length_le (by simp), List.append_nil] at k5; have Y1 := X1.wr k6 (by omega); have Y2 := X2.wr k6 (by omega); have p0 := q0.trans (k6.below (B := w.heap.size) (by omega) (by omega)); have y1 := Y1.1)
    | fail)
  have k7 : w.heap.size + 1 + 1 + 1 < w2.heap.size := by have := k6.size; omega
  have O2 := k2.wr k6
  clear x0 k1 k2 k4 k6 X0 X1 X2 q0
  go_loopw [6, 21] (fun t i wr => ∃ (k : Nat) (c : Int) (X : List Int), k ≤ ys.length ∧ i = .int .i64 k ∧ t = .int .u64 c ∧ 0 ≤ c ∧ c ≤ 1 ∧ Part X xs k ∧ val (X.take k) = val (xs.take k) - val (ys.take k) + pw k * c ∧ Cells wr (w.heap.size + 1 + 1 + 1) 0 X ∧ Wr (w.heap.size + 1 + 1 + 1) 0 xs.length w2 wr) (fun _ i _ => ys.length - (intOf i).toNat)
  case atStart => exact ⟨0, 0, xs, Nat.zero_le _, rfl, rfl, by omega, by omega, Part.refl hx 0, by simp [val], k5, Wr.refl _ _ _ _⟩
  case round =>
    obtain ⟨k, c, X, hk, rfl, rfl, h0, h1, hP, hv, hcX, hwr⟩ := hrel
    have HV : Hid (val (X.take k) = val (xs.take k) - val (ys.take k) + pw k * c) := hv
    clear hv
    have pr := p0.trans (hwr.below (B := w.heap.size) (by omega) (by have := p0.size; omega))
    by_cases hlt : k < ys.length
    · obtain ⟨b2, o2, rfl, hne, hcW⟩ := hs2.out wr pr (by omega)
      have k1 := hcW.at (i := k) hlt
      have k2 := hcX.at (i := k) (by rw [hP.len]; omega)
      rw [Nat.zero_add] at k2
      have k3 := (O2.wr hwr).free 0 xs.length k (by omega)
      rw [Nat.zero_add] at k3
      have b1 := nth_bd hy k
      have b2 := nth_bd hP.wd k
      have R : Hid _ := sub_step hP hy hlt (by omega) h0 h1 HV.out
      go_wp2_with (first | simp only [sub64 _ _ _ b2.1 b2.2 b1.1 b1.2 h0 h1] | fail)
      go_roundw
      case rel => exact ⟨k + 1, _, _, by omega, by go_num, rfl, R.out.2.1, R.out.2.2.1, R.out.1, R.out.2.2.2, by have := hcX.set k (by rw [hP.len]; omega) (nth X k - nth ys k - c + 18446744073709551616 * bor (nth X k) (nth ys k + c)); rwa [Nat.zero_add] at this, hwr.setCell _ (by omega) _⟩
      case measure => simp [intOf]; omega
    · have ek : k = ys.length := by omega
      subst ek
      rw [List.take_length] at HV
      have Z1 := (Y1.wr hwr (by omega)).1
      go_wp2_with fail
      clear Z1 y1
      go_loopw [6, 9] (fun t i wr => ∃ (k : Nat) (c : Int) (X : List Int), k ≤ xs.length ∧ i = .int .i64 k ∧ t = .int .u64 c ∧ 0 ≤ c ∧ c ≤ 1 ∧ Part X xs k ∧ val (X.take k) = val (xs.take k) - val ys + pw k * c ∧ Cells wr (w.heap.size + 1 + 1 + 1) 0 X ∧ Wr (w.heap.size + 1 + 1 + 1) 0 xs.length w2 wr) (fun _ i _ => xs.length - (intOf i).toNat)
      case atStart => exact ⟨_, _, _, hle, rfl, rfl, h0, h1, hP, HV.out, hcX, hwr⟩
      case round =>
        clear HV hP hcX hwr h0 h1 pr
        obtain ⟨k, c, X, hk, rfl, rfl, h0, h1, hP, hv, hcX, hwr⟩ := hrel
        have HV : Hid (val (X.take k) = val (xs.take k) - val ys + pw k * c) := hv
        clear hv
        have pr := p0.trans (hwr.below (B := w.heap.size) (by omega) (by have := p0.size; omega))
        have Z2 := Y2.wr hwr (by omega)
        by_cases hlt : k < xs.length
        · by_cases hc : 0 < c
          · have k2 := hcX.at (i := k) (by rw [hP.len]; omega)
            rw [Nat.zero_add] at k2
            have k3 := (O2.wr hwr).free 0 xs.length k (by omega)
            rw [Nat.zero_add] at k3
            have b2 := nth_bd hP.wd k
            have R : Hid _ := borrow_step hP hlt h0 h1 HV.out
            go_wp2_with (first | simp only [sub64_z _ _ b2.1 b2.2 h0 h1] | fail)
            go_roundw
            case rel => exact ⟨k + 1, _, _, by omega, by go_num, rfl, R.out.2.1, R.out.2.2.1, R.out.1, R.out.2.2.2, by have := hcX.set k (by rw [hP.len]; omega) (nth X k - c + 18446744073709551616 * bor (nth X k) c); rwa [Nat.zero_add] at this, hwr.setCell _ (by omega) _⟩
            case measure => simp [intOf]; omega
          · have hsum : Hid (val X = val xs - val ys) := sub_end hP hk (Or.inl (by omega)) h0 hN HV.out
            have hl' : Hid (X.length = xs.length) := hP.len
            have hw := hP.wd
            clear HV hP
            go_wp2_with fail
            refine (trim_rd _ _ _ X wr hl'.out.symm hw (by rw [hl'.out]; omega) (by omega) (fun _ => ⟨_, _, rfl, hcX⟩)).mono ?_
            rintro e w4 ⟨n, zs, rfl, -, hrd, hnm, hvz, hbl⟩
            have V2 := Z2.below hbl
            have v1 := V2.1
            have v2 := V2.2
            have hvz' : Hid (val zs = val xs - val ys) := hvz.trans hsum.out
            clear hvz
            go_wp2
            refine bodyPost_ret (v := .agg #[.slice (some ⟨w.heap.size + 1 + 1 + 1, 0, none⟩) n xs.length]) (by simp [results, Tryz.results110, go_sem, v1]) rfl ⟨_, zs, rfl, hrd.put (by intro b o l c e; simp at e; omega), hnm, hvz'.out, below_put (pr.trans (hbl.mono pr.size)) (by omega) _⟩
        · have hsum : Hid (val X = val xs - val ys) := sub_end hP hk (Or.inr (by omega)) h0 hN HV.out
          have hl' : Hid (X.length = xs.length) := hP.len
          have hw := hP.wd
          clear HV hP
          go_wp2_with fail
          refine (trim_rd _ _ _ X wr hl'.out.symm hw (by rw [hl'.out]; omega) (by omega) (fun _ => ⟨_, _, rfl, hcX⟩)).mono ?_
          rintro e w4 ⟨n, zs, rfl, -, hrd, hnm, hvz, hbl⟩
          have V2 := Z2.below hbl
          have v1 := V2.1
          have v2 := V2.2
          have hvz' : Hid (val zs = val xs - val ys) := hvz.trans hsum.out
          clear hvz
          go_wp2
          refine bodyPost_ret (v := .agg #[.slice (some ⟨w.heap.size + 1 + 1 + 1, 0, none⟩) n xs.length]) (by simp [results, Tryz.results110, go_sem, v1]) rfl ⟨_, zs, rfl, hrd.put (by intro b o l c e; simp at e; omega), hnm, hvz'.out, below_put (pr.trans (hbl.mono pr.size)) (by omega) _⟩

/-- (Nat).Sub, of numbers (so that what is taken away has no more words). -/
theorem Sub_any (v1 v2 : Value) (xs ys : List Int) (w : World) (h1 : Rd w v1 xs) (h2 : Rd w v2 ys) (n2 : Nm ys) (hN : val ys ≤ val xs) (l1 : xs.length ≤ 549755813888) :
    Calls Tryz.prog 110 #[.agg #[v1], .agg #[v2]] w fun e w' => ∃ r zs, e = .returned (.agg #[r]) ∧ Rd w' r zs ∧ Nm zs ∧ val zs = val xs - val ys ∧ Below w.heap.size w w' := by
  obtain ⟨w1, a1, c1, rfl, _, _, g1⟩ := h1
  obtain ⟨w2, a2, c2, rfl, _, _, g2⟩ := h2
  have hle : ys.length ≤ xs.length := by
    by_cases h : ys.length ≤ xs.length
    · exact h
    · have := val_lt_of_length w1 w2 n2 (by omega); omega
  exact sub_all a1 a2 c1 c2 xs ys w w1 w2 hle hN l1 g1 g2
end Go.Proofs.YtfalncbcomlelaaGreatDoor
