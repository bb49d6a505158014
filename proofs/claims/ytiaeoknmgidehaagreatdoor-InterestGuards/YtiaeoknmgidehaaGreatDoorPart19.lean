import Derived.Test.YtiaeoknmgidehaaGreatDoorPart18
import Derived.Lib.ItoaNum
import Derived.Deep.RegionWith
import Derived.Deep.RegionHeld3
import Derived.BigRegion

namespace Go.Proofs.YtiaeoknmgidehaaGreatDoor
open Go.RowKit Tn

theorem pw_two (n : Nat) : pw n = 2 ^ (64 * n) := by
  induction n with
  | zero => rfl
  | succ n ih => rw [show 64 * (n + 1) = 64 * n + 64 from by omega, Int.pow_add, ← ih]; simp only [pw]; rw [Int.mul_comm]; rfl
theorem bitLen_bd (x : Int) (h0 : 0 < x) (h1 : x < 18446744073709551616) : 1 ≤ Lib.bitLen x.toNat ∧ Lib.bitLen x.toNat ≤ 64 ∧ (2 : Int) ^ (Lib.bitLen x.toNat - 1) ≤ x ∧ x < 2 ^ Lib.bitLen x.toNat := by
  obtain ⟨n, rfl⟩ := Int.eq_ofNat_of_zero_le (Int.le_of_lt h0)
  rw [Int.toNat_natCast]
  have hb := Lib.bitLenAux_bounds 64 n (by omega) (by omega)
  have hc := Lib.bitLen_le n 64 (by omega) (by omega)
  refine ⟨hb.1, hc, ?_, ?_⟩
  · have := Int.ofNat_le.2 hb.2.1; rw [Int.natCast_pow] at this; exact this
  · have := Int.ofNat_lt.2 hb.2.2; rw [Int.natCast_pow] at this; exact this
theorem val_top {xs : List Int} (ne : 0 < xs.length) : val xs = val (xs.take (xs.length - 1)) + pw (xs.length - 1) * nth xs (xs.length - 1) := by
  have e := val_at xs (xs.length - 1) (by omega)
  rw [Nat.sub_add_cancel ne, List.take_length] at e; exact e
theorem nm_top {xs : List Int} (h : Wd xs) (n : Nm xs) (ne : 0 < xs.length) : 0 < nth xs (xs.length - 1) := by
  rcases n with rfl | n
  · simp at ne
  · have := (nth_bd h (xs.length - 1)).1; unfold nth at *; omega
theorem bitLen_val {xs : List Int} (h : Wd xs) (n : Nm xs) (ne : 0 < xs.length) : ∃ L : Nat, (xs.length : Int) * 64 - (64 - (Lib.bitLen (nth xs (xs.length - 1)).toNat : Int)) = (L : Int) ∧ val xs < 2 ^ L ∧ 1 ≤ L ∧ (2 : Int) ^ (L - 1) ≤ val xs := by
  have ht := nm_top h n ne
  have hb := bitLen_bd (nth xs (xs.length - 1)) ht (nth_bd h _).2
  have e := val_top ne
  have v0 := val_nonneg (h.take (xs.length - 1))
  have v1 := val_lt (h.take (xs.length - 1))
  rw [List.length_take, Nat.min_eq_left (by omega)] at v1
  have p := pw_pos (xs.length - 1)
  refine ⟨64 * (xs.length - 1) + Lib.bitLen (nth xs (xs.length - 1)).toNat, by omega, ?_, by omega, ?_⟩
  · rw [Int.pow_add, ← pw_two]
    have := Int.mul_le_mul_of_nonneg_left (show nth xs (xs.length - 1) + 1 ≤ 2 ^ Lib.bitLen (nth xs (xs.length - 1)).toNat by omega) (Int.le_of_lt p)
    grind
  · rw [show 64 * (xs.length - 1) + Lib.bitLen (nth xs (xs.length - 1)).toNat - 1 = 64 * (xs.length - 1) + (Lib.bitLen (nth xs (xs.length - 1)).toNat - 1) from by omega, Int.pow_add, ← pw_two]
    have := Int.mul_le_mul_of_nonneg_left hb.2.2.1 (Int.le_of_lt p)
    omega

set_option maxRecDepth 100000 in
set_option maxHeartbeats 400000 in
/-- (Nat).BitLen. -/
theorem BitLen_any (v : Value) (xs : List Int) (w : World) (h : Rd w v xs) (n : Nm xs) (hL : xs.length ≤ 1099511627776) :
    Calls Tryz.prog 93 #[.agg #[v]] w fun e w' => ∃ L : Nat, e = .returned (.int .i64 L) ∧ val xs < 2 ^ L ∧ (L = 0 ∨ (2 : Int) ^ (L - 1) ≤ val xs) ∧ (L : Int) ≤ 64 * xs.length ∧ Below w.heap.size w w' := by
  obtain ⟨w1, a, c, rfl, _, _, g⟩ := h
  by_cases h0 : xs.length = 0
  · have e0 : xs = [] := List.eq_nil_of_length_eq_zero h0
    have ht : ((xs.length : Int) == 0) = true := by rw [h0]; rfl
    have R : Hid (val xs = 0) := by rw [e0]; rfl
    clear g e0
    go_enter Tryz.func93, Tryz.ntmps93
    go_wp2
    go_ret
    exact ⟨0, rfl, by rw [R.out]; decide, Or.inl rfl, by omega, (Below.refl _ _).alloc (Nat.le_refl _) _⟩
  · obtain ⟨b, o, rfl, hc⟩ := g (by omega)
    have hb := hc.lt (by omega)
    have hc1 := hc.at (i := xs.length - 1) (by omega)
    have bd := nth_bd w1 (xs.length - 1)
    obtain ⟨L, e1, e2, e3, e4⟩ := bitLen_val w1 n (by omega)
    have ht := nm_top w1 n (by omega)
    have hb2 := bitLen_bd (nth xs (xs.length - 1)) ht bd.2
    have E1 : Hid _ := e1
    have ht' : ((xs.length : Int) == 0) = false := by rw [beq_eq_false_iff_ne]; omega
    have hL2 : (Lib.bitLen (nth xs (xs.length - 1)).toNat : Int) ≤ 64 := by omega
    clear e1 hb2 g
    go_enter Tryz.func93, Tryz.ntmps93
    go_wp2_with (go_at_call 121; refine (Tryz.bits_LeadingZeros64 _ _ bd.1 (by omega)).mono ?_; rintro e w' ⟨rfl, rfl⟩)
    go_ret
    exact ⟨L, by rw [← E1.out]; rfl, e2, Or.inr e4, by have := E1.out; omega, (Below.refl _ _).alloc (Nat.le_refl _) _⟩

set_option maxRecDepth 100000 in
/-- whole.Of. -/
theorem Of_any (x : Int) (w : World) (h0 : 0 ≤ x) (h1 : x < 18446744073709551616) :
    Calls Tryz.prog 71 #[.int .u64 x] w fun e w' => ∃ r zs, e = .returned (.agg #[r]) ∧ Rd w' r zs ∧ Nm zs ∧ val zs = x ∧ Below w.heap.size w w' := by
  have hc : Hid (Cells ((w.alloc (.cells #[.slice none 0 0] 57)).alloc (.cells #[.int .u64 x] 91)) (w.heap.size + 1) 0 [x]) := by
    intro i hi
    have : i = 0 := by simp at hi; omega
    subst this
    simp [nth]
  go_enter Tryz.func71, Tryz.ntmps71
  go_wp2_with fail
  refine (trim_rd _ _ _ [x] _ rfl (Wd.cons h0 h1 Wd.nil) (by simp) (by omega) (fun _ => ⟨_, _, rfl, hc.out⟩)).mono ?_
  rintro e w4 ⟨n, zs, rfl, -, hrd, hnm, hvz, hbl⟩
  have V2 := ((Bx.new w _ _).alloc _).below hbl
  have v1 := V2.1
  have v2 := V2.2
  have hvz' : Hid (val zs = x) := by
    have e : val [x] = x := by simp [val]
    exact hvz.trans e
  have pr : Below w.heap.size w ((w.alloc (.cells #[.slice none 0 0] 57)).alloc (.cells #[.int .u64 x] 91)) := ((Below.refl _ _).alloc (Nat.le_refl _) _).alloc (by simp) _
  clear hvz
  go_wp2
  refine bodyPost_ret (v := .agg #[.slice (some ⟨w.heap.size + 1, 0, none⟩) n 1]) (by simp [results, Tryz.results71, go_sem, v1]) rfl ⟨_, zs, rfl, hrd.put (by intro b o l c e; simp at e; omega), hnm, hvz'.out, below_put (pr.trans (hbl.mono pr.size)) (by omega) _⟩

set_option maxRecDepth 100000 in
/-- whole.multiplyAdd: x y + z, its low and its high word. -/
theorem mulAdd_any (x y z : Int) (w : World) (x0 : 0 ≤ x) (x1 : x < 18446744073709551616) (y0 : 0 ≤ y) (y1 : y < 18446744073709551616) (z0 : 0 ≤ z) (z1 : z < 18446744073709551616) :
    Calls Tryz.prog 151 #[.int .u64 x, .int .u64 y, .int .u64 z] w fun e w' => ∃ l h, e = .returned (.tuple #[.int .u64 l, .int .u64 h]) ∧ 0 ≤ l ∧ l < 18446744073709551616 ∧ 0 ≤ h ∧ h < 18446744073709551616 ∧ l + 18446744073709551616 * h = x * y + z ∧ w' = w := by
  have hh := hiw_bd x0 x1 y0 y1
  have hl := low_bd x y
  have e := hilo x y
  have E : Hid _ := e
  clear e
  go_enter Tryz.func151, Tryz.ntmps151
  go_wp2_with (first | (go_at_call 153; refine (mul64 x y _ x0 x1 y0 y1).mono ?_; rintro e w' ⟨rfl, rfl⟩) | simp only [add64_0 _ _ hl.1 z0])
  go_ret2
  exact ⟨_, _, rfl, by omega, by omega, by omega, by omega, by have := E.out; omega, rfl⟩
end Go.Proofs.YtiaeoknmgidehaaGreatDoor

namespace Go.Proofs.YtiaeoknmgidehaaGreatDoor
open Go.RowKit Tn

/-- What a product, a word and a carry come to: the words. -/
def apLow (x y s c : Int) : Int := (low x y + s + c) % 18446744073709551616
def apHigh (x y s c : Int) : Int := hiw x y + (low x y + s) / 18446744073709551616 + ((low x y + s) % 18446744073709551616 + c) / 18446744073709551616
theorem ap_eq (x y s c : Int) : apLow x y s c + 18446744073709551616 * apHigh x y s c = x * y + s + c := by
  have := hilo x y; unfold apLow apHigh; omega
theorem ap_bd {x y s c : Int} (x0 : 0 ≤ x) (x1 : x < 18446744073709551616) (y0 : 0 ≤ y) (y1 : y < 18446744073709551616) (s0 : 0 ≤ s) (s1 : s < 18446744073709551616) (c0 : 0 ≤ c) (c1 : c < 18446744073709551616) : 0 ≤ apHigh x y s c ∧ apHigh x y s c < 18446744073709551616 := by
  have e := ap_eq x y s c
  have h := mul_hi (M := 18446744073709551615) x0 (by omega) y0 (by omega)
  have : 0 ≤ apLow x y s c ∧ apLow x y s c < 18446744073709551616 := by unfold apLow; omega
  omega
theorem prod_step {X S W : List Int} {k : Nat} {c f : Int} (h : Part X S k) (hW : Wd W) (hk : k < W.length) (hk' : k < S.length) (h0 : 0 ≤ c) (h1 : c < 18446744073709551616) (f0 : 0 ≤ f) (f1 : f < 18446744073709551616) (hv : val (X.take k) + pw k * c = val (S.take k) + val (W.take k) * f) :
    Part (X.set k (apLow (nth W k) f (nth X k) c)) S (k + 1) ∧ 0 ≤ apHigh (nth W k) f (nth X k) c ∧ apHigh (nth W k) f (nth X k) c < 18446744073709551616 ∧
    val ((X.set k (apLow (nth W k) f (nth X k) c)).take (k + 1)) + pw (k + 1) * apHigh (nth W k) f (nth X k) c = val (S.take (k + 1)) + val (W.take (k + 1)) * f := by
  have b1 := nth_bd hW k
  have b2 := nth_bd h.wd k
  have b3 := ap_bd b1.1 b1.2 f0 f1 b2.1 b2.2 h0 h1
  refine ⟨h.step (by unfold apLow; omega) (by unfold apLow; omega), b3.1, b3.2, ?_⟩
  rw [h.val hk', val_at S k hk', val_at W k hk, h.nth]
  have e := ap_eq (nth W k) f (nth S k) c
  simp only [pw]
  grind

set_option maxHeartbeats 800000 in
/-- whole.addProduct. -/
theorem addProduct_any (b o cap n : Nat) (S : List Int) (a : Option Addr) (cap2 : Nat) (W : List Int) (f : Int) (w : World) (en : n = S.length) (hS : Wd S) (hW : Wd W) (hl : W.length = S.length) (f0 : 0 ≤ f) (f1 : f < 18446744073709551616) (hL : S.length ≤ 1099511627776) (hcS : Cells w b o S) (hF : Free w b o S.length)
    (ha : 0 < W.length → ∃ b2 o2, a = some ⟨b2, o2, none⟩ ∧ b2 ≠ b ∧ Cells w b2 o2 W) :
    Calls Tryz.prog 132 #[.slice (some ⟨b, o, none⟩) n cap, .slice a W.length cap2, .int .u64 f] w fun e w' => ∃ S' c, e = .returned (.int .u64 c) ∧ 0 ≤ c ∧ c < 18446744073709551616 ∧ S'.length = S.length ∧ Wd S' ∧ val S' + pw S.length * c = val S + val W * f ∧ Cells w' b o S' ∧ Wr b o S.length w w' := by
  subst en
  have HL : Hid (W.length = S.length) := hl
  have hl2 : W.length ≤ S.length := by omega
  clear hl
  go_enter Tryz.func132, Tryz.ntmps132
  go_wp2
  go_loopw [7, 15] (fun t i wr => ∃ (k : Nat) (c : Int) (X : List Int), k ≤ W.length ∧ i = .int .i64 k ∧ t = .int .u64 c ∧ 0 ≤ c ∧ c < 18446744073709551616 ∧ Part X S k ∧ val (X.take k) + pw k * c = val (S.take k) + val (W.take k) * f ∧ Cells wr b o X ∧ Wr b o S.length w wr) (fun _ i _ => W.length - (intOf i).toNat)
  case atStart => exact ⟨0, 0, S, Nat.zero_le _, rfl, rfl, by omega, by omega, Part.refl hS 0, by simp [val, pw], hcS, Wr.refl _ _ _ _⟩
  case round =>
    obtain ⟨k, c, X, hk, rfl, rfl, h0, h1, hP, hv, hcX, hwr⟩ := hrel
    have HV : Hid (val (X.take k) + pw k * c = val (S.take k) + val (W.take k) * f) := hv
    clear hv
    by_cases hlt : k < W.length
    · obtain ⟨b2, o2, rfl, hne, hcW⟩ := ha (by omega)
      have k1 := (hcW.other hwr hne).at (i := k) hlt
      have k2 := hcX.at (i := k) (by rw [hP.len]; omega)
      have k3 := (hF.wr hwr (hcS.lt (by omega))) k (by omega)
      have b1 := nth_bd hW k
      have b2 := nth_bd hP.wd k
      have R : Hid _ := prod_step hP hW hlt (by omega) h0 h1 f0 f1 HV.out
      have e1 := hiw_bd b1.1 b1.2 f0 f1
      have e2 := low_bd (nth W k) f
      have e3 : 0 ≤ (low (nth W k) f + nth X k) % 18446744073709551616 := by omega
      have e4 : hiw (nth W k) f + (low (nth W k) f + nth X k) / 18446744073709551616 + ((low (nth W k) f + nth X k) % 18446744073709551616 + c) / 18446744073709551616 < 18446744073709551616 := (ap_bd b1.1 b1.2 f0 f1 b2.1 b2.2 h0 h1).2
      go_wp2_with (first | (go_at_call 153; refine (mul64 _ _ _ b1.1 b1.2 f0 f1).mono ?_; rintro e w' ⟨rfl, rfl⟩) | simp only [add64_0 _ _ e2.1 b2.1] | simp only [add64_0 _ _ e3 h0])
      go_roundw
      case rel => exact ⟨k + 1, apHigh (nth W k) f (nth X k) c, _, by omega, by go_num, rfl, R.out.2.1, R.out.2.2.1, R.out.1, R.out.2.2.2, hcX.set k (by rw [hP.len]; omega) _, hwr.setCell _ (by omega) _⟩
      case measure => simp [intOf]; omega
    · have ek : k = W.length := by omega
      subst ek
      have R : Hid (val X + pw S.length * c = val S + val W * f) := by
        have := HV.out
        have h5 := hP.len
        rw [List.take_length, HL.out, List.take_length] at this
        rw [← h5, List.take_length] at this
        rw [← h5]; exact this
      go_wp2
      go_ret
      exact ⟨X, c, rfl, h0, h1, hP.len, hP.wd, R.out, hcX, hwr⟩
end Go.Proofs.YtiaeoknmgidehaaGreatDoor

namespace Go.Proofs.YtiaeoknmgidehaaGreatDoor
open Go.RowKit Tn

/-- A part of a row rewritten. -/
def spl (X : List Int) (k n : Nat) (S : List Int) : List Int := X.take k ++ (S ++ X.drop (k + n))
theorem spl_len {X S : List Int} {k n : Nat} (h : k + n ≤ X.length) (hS : S.length = n) : (spl X k n S).length = X.length := by simp [spl]; omega
theorem wd_spl {X S : List Int} (h : Wd X) (hS : Wd S) (k n : Nat) : Wd (spl X k n S) := (h.take k).append (hS.append (h.drop _))
theorem Cells.spl {w w2 : World} {b : Nat} {X S : List Int} {k n : Nat} (h : Cells w b 0 X) (hl : k + n ≤ X.length) (hS : S.length = n) (hw : Wr b k n w w2) (hc : Cells w2 b k S) : Cells w2 b 0 (spl X k n S) := by
  refine Cells.append ((h.take k).apart hw (Or.inl (by simp; omega))) ?_
  rw [List.length_take, Nat.min_eq_left (by omega), Nat.zero_add]
  refine Cells.append hc ?_
  have := (h.drop (k + n)).apart hw (Or.inr (by omega))
  rw [Nat.zero_add] at this
  rw [hS]; exact this
theorem val_spl {X S : List Int} {k n : Nat} (hl : k + n ≤ X.length) (hS : S.length = n) : val (spl X k n S) = val X + pw k * (val S - val ((X.drop k).take n)) := by
  have e1 := val_split X k (by omega)
  have e2 := val_split (X.drop k) n (by simp; omega)
  rw [List.drop_drop] at e2
  have h1 : (X.take k).length = k := by simp; omega
  unfold spl
  rw [val_append, val_append, h1, hS, e1, e2]; grind
theorem val_set (X : List Int) (j : Nat) (v : Int) (h : j < X.length) : val (X.set j v) = val X + pw j * (v - nth X j) := by
  have e1 := val_split (X.set j v) (j + 1) (by simp; omega)
  have e2 := val_split X (j + 1) (by omega)
  rw [take_set_succ X j v h, drop_set_succ, val_append, List.length_take, Nat.min_eq_left (by omega)] at e1
  rw [val_at X j h] at e2
  simp only [val] at e1
  grind
theorem nth_spl {X S : List Int} {k n : Nat} (hl : k + n ≤ X.length) (hS : S.length = n) : nth (spl X k n S) (k + n) = nth X (k + n) := by
  have h1 : (X.take k).length = k := by simp; omega
  unfold spl nth
  rw [List.getD_eq_getElem?_getD, List.getElem?_append_right (by omega), List.getElem?_append_right (by omega), List.getElem?_drop, List.getD_eq_getElem?_getD]
  congr 2; omega
theorem nth_zero {X : List Int} {j m : Nat} (h : X.drop j = List.replicate m 0) : nth X j = 0 := by
  have := nth_drop X j 0
  rw [h, nth_replicate] at this
  simpa using this.symm
theorem drop_spl_set {X S : List Int} {k n j : Nat} {v : Int} (hl : k + n ≤ X.length) (hS : S.length = n) (hj : j = k + n) : ((spl X k n S).set j v).drop (j + 1) = X.drop (j + 1) := by
  subst hj
  rw [drop_set_succ]
  have h1 : (X.take k).length = k := by simp; omega
  unfold spl
  rw [List.drop_append, List.drop_append, List.drop_drop, h1, hS]
  rw [List.drop_of_length_le (by omega), List.drop_of_length_le (by omega)]
  simp; congr 1; omega
theorem mul_round {X xs ys S' : List Int} {k : Nat} {c : Int} (hy : k < ys.length) (hl : X.length = xs.length + ys.length) (hw : Wd X) (hd : X.drop (xs.length + k) = List.replicate (ys.length - k) 0) (hv : val X = val xs * val (ys.take k))
    (hS : S'.length = xs.length) (hwS : Wd S') (c0 : 0 ≤ c) (c1 : c < 18446744073709551616) (hs : val S' + pw xs.length * c = val ((X.drop k).take xs.length) + val xs * nth ys k) :
    ((spl X k xs.length S').set (k + xs.length) c).length = xs.length + ys.length ∧ Wd ((spl X k xs.length S').set (k + xs.length) c) ∧ ((spl X k xs.length S').set (k + xs.length) c).drop (xs.length + (k + 1)) = List.replicate (ys.length - (k + 1)) 0 ∧ val ((spl X k xs.length S').set (k + xs.length) c) = val xs * val (ys.take (k + 1)) := by
  have h1 : k + xs.length ≤ X.length := by omega
  have h2 := spl_len (S := S') h1 hS
  refine ⟨by simp; omega, (wd_spl hw hwS k _).set _ c0 c1, ?_, ?_⟩
  · rw [show xs.length + (k + 1) = (k + xs.length) + 1 from by omega, drop_spl_set h1 hS rfl]
    have := congrArg (List.drop 1) hd
    rw [List.drop_drop, List.drop_replicate] at this
    rw [show k + xs.length + 1 = xs.length + k + 1 from by omega, this]
    congr 1
  · rw [val_set _ _ _ (by omega), val_spl h1 hS, nth_spl h1 hS, show k + xs.length = xs.length + k from by omega, nth_zero hd, val_at ys k hy, hv, pw_add]
    grind

set_option maxHeartbeats 1600000 in
set_option maxRecDepth 100000 in
theorem mulPlainly_all (a1 a2 : Option Addr) (c1 c2 : Nat) (xs ys : List Int) (w : World) (hx : Wd xs) (hy : Wd ys) (hL : xs.length ≤ 274877906944) (hL2 : ys.length ≤ 274877906944) (h1 : 0 < xs.length → ∃ b o, a1 = some ⟨b, o, none⟩ ∧ Cells w b o xs) (h2 : 0 < ys.length → ∃ b o, a2 = some ⟨b, o, none⟩ ∧ Cells w b o ys) :
    Calls Tryz.prog 107 #[.agg #[.slice a1 xs.length c1], .agg #[.slice a2 ys.length c2]] w fun e w' => ∃ r zs, e = .returned (.agg #[r]) ∧ Rd w' r zs ∧ Nm zs ∧ val zs = val xs * val ys ∧ Below w.heap.size w w' := by
  have hs : Hid (∀ w', Below w.heap.size w w' → 0 < xs.length → ∃ b o, a1 = some ⟨b, o, none⟩ ∧ b ≠ w.heap.size + 1 + 1 + 1 ∧ Cells w' b o xs) := fun w' h l => by obtain ⟨b, o, e, c⟩ := h1 l; exact ⟨b, o, e, by have := c.lt l; omega, c.grow h⟩
  have hs2 : Hid (∀ w', Below w.heap.size w w' → 0 < ys.length → ∃ b o, a2 = some ⟨b, o, none⟩ ∧ b ≠ w.heap.size + 1 + 1 + 1 ∧ Cells w' b o ys) := fun w' h l => by obtain ⟨b, o, e, c⟩ := h2 l; exact ⟨b, o, e, by have := c.lt l; omega, c.grow h⟩
  clear h1 h2
  go_enter Tryz.func107, Tryz.ntmps107
  go_wp2_with (first
    | (at_make; refine wpList_make_words rfl _ _ rfl (xs.length + ys.length) _ _ rfl rfl (by simp) (by simp) (by omega) ?_; intro w1 k1 k2 k3 k4; have X0 := (((Bx.new w _ _).alloc _).alloc _).below k3; have X1 := ((Bx.new _ _ _).alloc _).below k3; have X2 := (Bx.new _ _ _).below k3; simp only [World.size_alloc] at X1 X2 k1 k2 k3 k4; have q0 := below_alloc3 k3; clear k3; have x1 := X1.1)
    | fail)
  clear x1
  go_loopw [21] (fun i wr => ∃ (k : Nat) (X : List Int), k ≤ ys.length ∧ i = .int .i64 k ∧ X.length = xs.length + ys.length ∧ Wd X ∧ X.drop (xs.length + k) = List.replicate (ys.length - k) 0 ∧ val X = val xs * val (ys.take k) ∧ Cells wr (w.heap.size + 1 + 1 + 1) 0 X ∧ Wr (w.heap.size + 1 + 1 + 1) 0 (xs.length + ys.length) w1 wr) (fun i _ => ys.length - (intOf i).toNat)
  case atStart => exact ⟨0, List.replicate (xs.length + ys.length) 0, Nat.zero_le _, rfl, by simp, Wd.zeros _, by simp, by simp [val_zeros, val], k1, Wr.refl _ _ _ _⟩
  case round =>
    obtain ⟨k, X, hk, rfl, hl, hw, hd, hv, hcX, hwr⟩ := hrel
    have HV : Hid (val X = val xs * val (ys.take k)) := hv
    have HD : Hid (X.drop (xs.length + k) = List.replicate (ys.length - k) 0) := hd
    have HL : Hid (X.length = xs.length + ys.length) := hl
    clear hv hd hl
    have pr := q0.trans (hwr.below (B := w.heap.size) (by omega) (by have := q0.size; omega))
    have Y0 := X0.wr hwr (by omega)
    have Y2 := X2.wr hwr (by omega)
    by_cases hlt : k < ys.length
    · obtain ⟨b2, o2, rfl, hne, hcW⟩ := hs2.out wr pr (by omega)
      have e1 := hcW.at (i := k) hlt
      have b1 := nth_bd hy k
      have y0 := Y0.1
      have hS : Hid (((X.drop k).take xs.length).length = xs.length) := by show _ = _; rw [List.length_take, List.length_drop, HL.out]; omega
      have hcS : Hid (Cells wr (w.heap.size + 1 + 1 + 1) k ((X.drop k).take xs.length)) := by have := (hcX.drop k).take xs.length; rwa [Nat.zero_add] at this
      have hsl := slice_lh (w.heap.size + 1 + 1 + 1) 0 (xs.length + ys.length) (xs.length + ys.length) (k : Int) ((k : Int) + (xs.length : Int)) k xs.length rfl rfl (by omega) (by omega)
      rw [Nat.zero_add] at hsl
      have g0 : Hid (wr.cell? ⟨w.heap.size + 1 + 1 + 1, k + xs.length, none⟩ = some (.int .u64 (nth X (k + xs.length)))) := by have := hcX (k + xs.length) (by have := HL.out; omega); rw [Nat.zero_add] at this; exact this
      have hwp : IntKind.i64.wrap ((k : Int) + (xs.length : Int)) = (k : Int) + (xs.length : Int) := IntWalk.i64_in _ (by omega)
      go_wp2_with fail
      go_region_with (go_at_call 132; go_must (refine (addProduct_any (w.heap.size + 1 + 1 + 1) k _ _ ((X.drop k).take xs.length) a1 _ xs (nth ys k) _ hS.out.symm ((hw.drop k).take _) hx hS.out.symm b1.1 b1.2 (by have := hS.out; omega) hcS.out.drew ((k2.wr hwr).free _ _).drew (hs.out _ pr.drew)).mono ?_; rintro e w2 ⟨S', c, rfl, c0, c1, hl', hw', hv', hc', hwr'⟩; rw [hS.out] at hl' hwr'; have g1 := (hwr'.undrew.cell (k + xs.length) (by omega)).trans g0.out; have g2 := ((k2.wr hwr).wr hwr'.undrew).free 0 (k + xs.length + 1) (k + xs.length) (by omega); rw [Nat.zero_add] at g2))
      have R : Hid _ := mul_round hlt HL.out hw HD.out HV.out hl' hw' c0 c1 (by rw [hS.out] at hv'; exact hv')
      have RC : Hid (Cells w2 (w.heap.size + 1 + 1 + 1) 0 (spl X k xs.length S')) := hcX.spl (k := k) (n := xs.length) (by have := HL.out; omega) hl' hwr'.undrew hc'
      have RW : Hid (Wr (w.heap.size + 1 + 1 + 1) 0 (xs.length + ys.length) w1 w2) := hwr.trans (hwr'.undrew.mono (o' := 0) (n' := xs.length + ys.length) (by omega) (by omega))
      clear hv' hc' hwr'
      go_wp2
      go_roundw
      case rel => exact ⟨k + 1, (spl X k xs.length S').set (k + xs.length) c, by omega, by go_num, R.out.1, R.out.2.1, R.out.2.2.1, R.out.2.2.2, by have := RC.out.set (k + xs.length) (by rw [spl_len (by have := HL.out; omega) hl']; have := HL.out; omega) c; rwa [Nat.zero_add] at this, RW.out.setCell _ (by omega) _⟩
      case measure => simp [intOf]; omega
    · have ek : k = ys.length := by omega
      subst ek
      have hsum : Hid (val X = val xs * val ys) := by have := HV.out; rwa [List.take_length] at this
      clear HV HD
      go_wp2_with fail
      refine (trim_rd _ _ _ X wr HL.out.symm hw (by have := HL.out; omega) (by omega) (fun _ => ⟨_, _, rfl, hcX⟩)).mono ?_
      rintro e w4 ⟨n, zs, rfl, -, hrd, hnm, hvz, hbl⟩
      have V2 := Y2.below hbl
      have v1 := V2.1
      have v2 := V2.2
      have hvz' : Hid (val zs = val xs * val ys) := hvz.trans hsum.out
      clear hvz
      go_wp2
      refine bodyPost_ret (v := .agg #[.slice (some ⟨w.heap.size + 1 + 1 + 1, 0, none⟩) n (xs.length + ys.length)]) (by simp [results, Tryz.results107, go_sem, v1]) rfl ⟨_, zs, rfl, hrd.put (by intro b o l c e; simp at e; omega), hnm, hvz'.out, below_put (pr.trans (hbl.mono pr.size)) (by omega) _⟩
end Go.Proofs.YtiaeoknmgidehaaGreatDoor

namespace Go.Proofs.YtiaeoknmgidehaaGreatDoor
open Go.RowKit Tn

/-- (Nat).mulPlainly. -/
theorem mulPlainly_any (v1 v2 : Value) (xs ys : List Int) (w : World) (h1 : Rd w v1 xs) (h2 : Rd w v2 ys) (l1 : xs.length ≤ 274877906944) (l2 : ys.length ≤ 274877906944) :
    Calls Tryz.prog 107 #[.agg #[v1], .agg #[v2]] w fun e w' => ∃ r zs, e = .returned (.agg #[r]) ∧ Rd w' r zs ∧ Nm zs ∧ val zs = val xs * val ys ∧ Below w.heap.size w w' := by
  obtain ⟨w1, a1, c1, rfl, _, _, g1⟩ := h1
  obtain ⟨w2, a2, c2, rfl, _, _, g2⟩ := h2
  exact mulPlainly_all a1 a2 c1 c2 xs ys w w1 w2 l1 l2 g1 g2

theorem Rd.shape {w : World} {v : Value} {xs : List Int} (h : Rd w v xs) : ∃ a l c, v = .slice a l c := by
  obtain ⟨_, a, c, e, _⟩ := h; exact ⟨a, _, c, e⟩

set_option maxRecDepth 100000 in
theorem mul_long (v1 v2 : Value) (a1 a2 : Option Addr) (c1 c2 : Nat) (xs ys : List Int) (w : World) (e1 : v1 = .slice a1 xs.length c1) (e2 : v2 = .slice a2 ys.length c2) (h1 : Rd w v1 xs) (h2 : Rd w v2 ys) (hle : ys.length ≤ xs.length) (hs : ys.length < 80) (hL : xs.length ≤ 274877906944) :
    Calls Tryz.prog 69 #[.agg #[v1], .agg #[v2]] w fun e w' => ∃ r zs, e = .returned (.agg #[r]) ∧ Rd w' r zs ∧ Nm zs ∧ val zs = val xs * val ys ∧ Below w.heap.size w w' := by
  have H1 : Hid (Rd w v1 xs) := h1
  have H2 : Hid (Rd w v2 ys) := h2
  clear h1 h2
  subst e1 e2
  have pr : Below w.heap.size w (((w.alloc (.cells #[.slice a1 xs.length c1] 57)).alloc (.cells #[.slice a2 ys.length c2] 57)).alloc (.cells #[.slice none 0 0] 57)) := (((Below.refl _ _).alloc (Nat.le_refl _) _).alloc (by simp) _).alloc (by simp; omega) _
  go_enter Tryz.func69, Tryz.ntmps69
  go_wp2_with fail
  refine (mulPlainly_any _ _ xs ys _ (H1.out.grow pr) (H2.out.grow pr) hL (by omega)).mono ?_
  rintro e w4 ⟨r, zs, rfl, hrd, hnm, hvz, hbl⟩
  obtain ⟨ra, rl, rc, rfl⟩ := hrd.shape
  have V2 := (Bx.new _ _ _).below hbl
  simp only [World.size_alloc] at V2
  have v1 := V2.1
  have v2 := V2.2
  have HVZ : Hid (val zs = val xs * val ys) := hvz
  clear hvz
  go_wp2
  refine bodyPost_ret (v := .agg #[.slice ra rl rc]) (by simp [results, Tryz.results69, go_sem, v1]) rfl ⟨_, zs, rfl, hrd.box V2, hnm, HVZ.out, below_put (pr.trans (hbl.mono pr.size)) (by omega) _⟩

set_option maxRecDepth 100000 in
theorem mul_short (v1 v2 : Value) (a1 a2 : Option Addr) (c1 c2 : Nat) (xs ys : List Int) (w : World) (e1 : v1 = .slice a1 xs.length c1) (e2 : v2 = .slice a2 ys.length c2) (h1 : Rd w v1 xs) (h2 : Rd w v2 ys) (hle : xs.length < ys.length) (hs : xs.length < 80) (hL : ys.length ≤ 274877906944) :
    Calls Tryz.prog 69 #[.agg #[v1], .agg #[v2]] w fun e w' => ∃ r zs, e = .returned (.agg #[r]) ∧ Rd w' r zs ∧ Nm zs ∧ val zs = val xs * val ys ∧ Below w.heap.size w w' := by
  have H1 : Hid (Rd w v1 xs) := h1
  have H2 : Hid (Rd w v2 ys) := h2
  clear h1 h2
  subst e1 e2
  have pr : Below w.heap.size w (((w.alloc (.cells #[.slice a2 ys.length c2] 57)).alloc (.cells #[.slice a1 xs.length c1] 57)).alloc (.cells #[.slice none 0 0] 57)) := (((Below.refl _ _).alloc (Nat.le_refl _) _).alloc (by simp) _).alloc (by simp; omega) _
  go_enter Tryz.func69, Tryz.ntmps69
  go_wp2_with fail
  refine (mulPlainly_any _ _ ys xs _ (H2.out.grow pr) (H1.out.grow pr) hL (by omega)).mono ?_
  rintro e w4 ⟨r, zs, rfl, hrd, hnm, hvz, hbl⟩
  obtain ⟨ra, rl, rc, rfl⟩ := hrd.shape
  have V2 := (Bx.new _ _ _).below hbl
  simp only [World.size_alloc] at V2
  have v1 := V2.1
  have v2 := V2.2
  have HVZ : Hid (val zs = val xs * val ys) := hvz.trans (Int.mul_comm _ _)
  clear hvz
  go_wp2
  refine bodyPost_ret (v := .agg #[.slice ra rl rc]) (by simp [results, Tryz.results69, go_sem, v1]) rfl ⟨_, zs, rfl, hrd.box V2, hnm, HVZ.out, below_put (pr.trans (hbl.mono pr.size)) (by omega) _⟩

/-- (Nat).Mul, where one of both is short. -/
theorem Mul_short (v1 v2 : Value) (xs ys : List Int) (w : World) (h1 : Rd w v1 xs) (h2 : Rd w v2 ys) (hs : xs.length < 80 ∨ ys.length < 80) (l1 : xs.length ≤ 274877906944) (l2 : ys.length ≤ 274877906944) :
    Calls Tryz.prog 69 #[.agg #[v1], .agg #[v2]] w fun e w' => ∃ r zs, e = .returned (.agg #[r]) ∧ Rd w' r zs ∧ Nm zs ∧ val zs = val xs * val ys ∧ Below w.heap.size w w' := by
  obtain ⟨_, a1, c1, e1, _, _, _⟩ := id h1
  obtain ⟨_, a2, c2, e2, _, _, _⟩ := id h2
  by_cases h : ys.length ≤ xs.length
  · exact mul_long v1 v2 a1 a2 c1 c2 xs ys w e1 e2 h1 h2 h (by omega) l1
  · exact mul_short v1 v2 a1 a2 c1 c2 xs ys w e1 e2 h1 h2 (by omega) (by omega) l2
end Go.Proofs.YtiaeoknmgidehaaGreatDoor

namespace Go.Proofs.YtiaeoknmgidehaaGreatDoor
open Go.RowKit Tn

/-- A row that does not lie below a place. -/
def FrA (base : Nat) (v : Value) : Prop := ∀ b o l c, v = .slice (some ⟨b, o, none⟩) l c → base ≤ b
set_option maxHeartbeats 1600000 in
set_option maxRecDepth 100000 in
theorem mulPlainly_new (a1 a2 : Option Addr) (c1 c2 : Nat) (xs ys : List Int) (w : World) (hx : Wd xs) (hy : Wd ys) (hL : xs.length ≤ 274877906944) (hL2 : ys.length ≤ 274877906944) (h1 : 0 < xs.length → ∃ b o, a1 = some ⟨b, o, none⟩ ∧ Cells w b o xs) (h2 : 0 < ys.length → ∃ b o, a2 = some ⟨b, o, none⟩ ∧ Cells w b o ys) :
    Calls Tryz.prog 107 #[.agg #[.slice a1 xs.length c1], .agg #[.slice a2 ys.length c2]] w fun e w' => ∃ r zs, e = .returned (.agg #[r]) ∧ Rd w' r zs ∧ Nm zs ∧ val zs = val xs * val ys ∧ Below w.heap.size w w' ∧ FrA w.heap.size r := by
  have hs : Hid (∀ w', Below w.heap.size w w' → 0 < xs.length → ∃ b o, a1 = some ⟨b, o, none⟩ ∧ b ≠ w.heap.size + 1 + 1 + 1 ∧ Cells w' b o xs) := fun w' h l => by obtain ⟨b, o, e, c⟩ := h1 l; exact ⟨b, o, e, by have := c.lt l; omega, c.grow h⟩
  have hs2 : Hid (∀ w', Below w.heap.size w w' → 0 < ys.length → ∃ b o, a2 = some ⟨b, o, none⟩ ∧ b ≠ w.heap.size + 1 + 1 + 1 ∧ Cells w' b o ys) := fun w' h l => by obtain ⟨b, o, e, c⟩ := h2 l; exact ⟨b, o, e, by have := c.lt l; omega, c.grow h⟩
  clear h1 h2
  go_enter Tryz.func107, Tryz.ntmps107
  go_wp2_with (first
    | (at_make; refine wpList_make_words rfl _ _ rfl (xs.length + ys.length) _ _ rfl rfl (by simp) (by simp) (by omega) ?_; intro w1 k1 k2 k3 k4; have X0 := (((Bx.new w _ _).alloc _).alloc _).below k3; have X1 := ((Bx.new _ _ _).alloc _).below k3; have X2 := (Bx.new _ _ _).below k3; simp only [World.size_alloc] at X1 X2 k1 k2 k3 k4; have q0 := below_alloc3 k3; clear k3; have x1 := X1.1)
    | fail)
  clear x1
  go_loopw [21] (fun i wr => ∃ (k : Nat) (X : List Int), k ≤ ys.length ∧ i = .int .i64 k ∧ X.length = xs.length + ys.length ∧ Wd X ∧ X.drop (xs.length + k) = List.replicate (ys.length - k) 0 ∧ val X = val xs * val (ys.take k) ∧ Cells wr (w.heap.size + 1 + 1 + 1) 0 X ∧ Wr (w.heap.size + 1 + 1 + 1) 0 (xs.length + ys.length) w1 wr) (fun i _ => ys.length - (intOf i).toNat)
  case atStart => exact ⟨0, List.replicate (xs.length + ys.length) 0, Nat.zero_le _, rfl, by simp, Wd.zeros _, by simp, by simp [val_zeros, val], k1, Wr.refl _ _ _ _⟩
  case round =>
    obtain ⟨k, X, hk, rfl, hl, hw, hd, hv, hcX, hwr⟩ := hrel
    have HV : Hid (val X = val xs * val (ys.take k)) := hv
    have HD : Hid (X.drop (xs.length + k) = List.replicate (ys.length - k) 0) := hd
    have HL : Hid (X.length = xs.length + ys.length) := hl
    clear hv hd hl
    have pr := q0.trans (hwr.below (B := w.heap.size) (by omega) (by have := q0.size; omega))
    have Y0 := X0.wr hwr (by omega)
    have Y2 := X2.wr hwr (by omega)
    by_cases hlt : k < ys.length
    · obtain ⟨b2, o2, rfl, hne, hcW⟩ := hs2.out wr pr (by omega)
      have e1 := hcW.at (i := k) hlt
      have b1 := nth_bd hy k
      have y0 := Y0.1
      have hS : Hid (((X.drop k).take xs.length).length = xs.length) := by show _ = _; rw [List.length_take, List.length_drop, HL.out]; omega
      have hcS : Hid (Cells wr (w.heap.size + 1 + 1 + 1) k ((X.drop k).take xs.length)) := by have := (hcX.drop k).take xs.length; rwa [Nat.zero_add] at this
      have hsl := slice_lh (w.heap.size + 1 + 1 + 1) 0 (xs.length + ys.length) (xs.length + ys.length) (k : Int) ((k : Int) + (xs.length : Int)) k xs.length rfl rfl (by omega) (by omega)
      rw [Nat.zero_add] at hsl
      have g0 : Hid (wr.cell? ⟨w.heap.size + 1 + 1 + 1, k + xs.length, none⟩ = some (.int .u64 (nth X (k + xs.length)))) := by have := hcX (k + xs.length) (by have := HL.out; omega); rw [Nat.zero_add] at this; exact this
      have hwp : IntKind.i64.wrap ((k : Int) + (xs.length : Int)) = (k : Int) + (xs.length : Int) := IntWalk.i64_in _ (by omega)
      go_wp2_with fail
      go_region_with (go_at_call 132; go_must (refine (addProduct_any (w.heap.size + 1 + 1 + 1) k _ _ ((X.drop k).take xs.length) a1 _ xs (nth ys k) _ hS.out.symm ((hw.drop k).take _) hx hS.out.symm b1.1 b1.2 (by have := hS.out; omega) hcS.out.drew ((k2.wr hwr).free _ _).drew (hs.out _ pr.drew)).mono ?_; rintro e w2 ⟨S', c, rfl, c0, c1, hl', hw', hv', hc', hwr'⟩; rw [hS.out] at hl' hwr'; have g1 := (hwr'.undrew.cell (k + xs.length) (by omega)).trans g0.out; have g2 := ((k2.wr hwr).wr hwr'.undrew).free 0 (k + xs.length + 1) (k + xs.length) (by omega); rw [Nat.zero_add] at g2))
      have R : Hid _ := mul_round hlt HL.out hw HD.out HV.out hl' hw' c0 c1 (by rw [hS.out] at hv'; exact hv')
      have RC : Hid (Cells w2 (w.heap.size + 1 + 1 + 1) 0 (spl X k xs.length S')) := hcX.spl (k := k) (n := xs.length) (by have := HL.out; omega) hl' hwr'.undrew hc'
      have RW : Hid (Wr (w.heap.size + 1 + 1 + 1) 0 (xs.length + ys.length) w1 w2) := hwr.trans (hwr'.undrew.mono (o' := 0) (n' := xs.length + ys.length) (by omega) (by omega))
      clear hv' hc' hwr'
      go_wp2
      go_roundw
      case rel => exact ⟨k + 1, (spl X k xs.length S').set (k + xs.length) c, by omega, by go_num, R.out.1, R.out.2.1, R.out.2.2.1, R.out.2.2.2, by have := RC.out.set (k + xs.length) (by rw [spl_len (by have := HL.out; omega) hl']; have := HL.out; omega) c; rwa [Nat.zero_add] at this, RW.out.setCell _ (by omega) _⟩
      case measure => simp [intOf]; omega
    · have ek : k = ys.length := by omega
      subst ek
      have hsum : Hid (val X = val xs * val ys) := by have := HV.out; rwa [List.take_length] at this
      clear HV HD
      go_wp2_with fail
      refine (trim_rd _ _ _ X wr HL.out.symm hw (by have := HL.out; omega) (by omega) (fun _ => ⟨_, _, rfl, hcX⟩)).mono ?_
      rintro e w4 ⟨n, zs, rfl, -, hrd, hnm, hvz, hbl⟩
      have V2 := Y2.below hbl
      have v1 := V2.1
      have v2 := V2.2
      have hvz' : Hid (val zs = val xs * val ys) := hvz.trans hsum.out
      clear hvz
      go_wp2
      refine bodyPost_ret (v := .agg #[.slice (some ⟨w.heap.size + 1 + 1 + 1, 0, none⟩) n (xs.length + ys.length)]) (by simp [results, Tryz.results107, go_sem, v1]) rfl ⟨_, zs, rfl, hrd.put (by intro b o l c e; simp at e; omega), hnm, hvz'.out, below_put (pr.trans (hbl.mono pr.size)) (by omega) _, by intro b o l c e; simp at e; omega⟩
/-- (Nat).mulPlainly. -/
theorem mulPlainly_anyF (v1 v2 : Value) (xs ys : List Int) (w : World) (h1 : Rd w v1 xs) (h2 : Rd w v2 ys) (l1 : xs.length ≤ 274877906944) (l2 : ys.length ≤ 274877906944) :
    Calls Tryz.prog 107 #[.agg #[v1], .agg #[v2]] w fun e w' => ∃ r zs, e = .returned (.agg #[r]) ∧ Rd w' r zs ∧ Nm zs ∧ val zs = val xs * val ys ∧ Below w.heap.size w w' ∧ FrA w.heap.size r := by
  obtain ⟨w1, a1, c1, rfl, _, _, g1⟩ := h1
  obtain ⟨w2, a2, c2, rfl, _, _, g2⟩ := h2
  exact mulPlainly_new a1 a2 c1 c2 xs ys w w1 w2 l1 l2 g1 g2

set_option maxRecDepth 100000 in
theorem mul_longF (v1 v2 : Value) (a1 a2 : Option Addr) (c1 c2 : Nat) (xs ys : List Int) (w : World) (e1 : v1 = .slice a1 xs.length c1) (e2 : v2 = .slice a2 ys.length c2) (h1 : Rd w v1 xs) (h2 : Rd w v2 ys) (hle : ys.length ≤ xs.length) (hs : ys.length < 80) (hL : xs.length ≤ 274877906944) :
    Calls Tryz.prog 69 #[.agg #[v1], .agg #[v2]] w fun e w' => ∃ r zs, e = .returned (.agg #[r]) ∧ Rd w' r zs ∧ Nm zs ∧ val zs = val xs * val ys ∧ Below w.heap.size w w' ∧ FrA w.heap.size r := by
  have H1 : Hid (Rd w v1 xs) := h1
  have H2 : Hid (Rd w v2 ys) := h2
  clear h1 h2
  subst e1 e2
  have pr : Below w.heap.size w (((w.alloc (.cells #[.slice a1 xs.length c1] 57)).alloc (.cells #[.slice a2 ys.length c2] 57)).alloc (.cells #[.slice none 0 0] 57)) := (((Below.refl _ _).alloc (Nat.le_refl _) _).alloc (by simp) _).alloc (by simp; omega) _
  go_enter Tryz.func69, Tryz.ntmps69
  go_wp2_with fail
  refine (mulPlainly_anyF _ _ xs ys _ (H1.out.grow pr) (H2.out.grow pr) hL (by omega)).mono ?_
  rintro e w4 ⟨r, zs, rfl, hrd, hnm, hvz, hbl, hfr⟩
  obtain ⟨ra, rl, rc, rfl⟩ := hrd.shape
  have V2 := (Bx.new _ _ _).below hbl
  simp only [World.size_alloc] at V2
  have v1 := V2.1
  have v2 := V2.2
  have HVZ : Hid (val zs = val xs * val ys) := hvz
  clear hvz
  go_wp2
  refine bodyPost_ret (v := .agg #[.slice ra rl rc]) (by simp [results, Tryz.results69, go_sem, v1]) rfl ⟨_, zs, rfl, hrd.box V2, hnm, HVZ.out, below_put (pr.trans (hbl.mono pr.size)) (by omega) _, fun b o l c e => Nat.le_trans pr.size (hfr b o l c e)⟩

set_option maxRecDepth 100000 in
theorem mul_shortF (v1 v2 : Value) (a1 a2 : Option Addr) (c1 c2 : Nat) (xs ys : List Int) (w : World) (e1 : v1 = .slice a1 xs.length c1) (e2 : v2 = .slice a2 ys.length c2) (h1 : Rd w v1 xs) (h2 : Rd w v2 ys) (hle : xs.length < ys.length) (hs : xs.length < 80) (hL : ys.length ≤ 274877906944) :
    Calls Tryz.prog 69 #[.agg #[v1], .agg #[v2]] w fun e w' => ∃ r zs, e = .returned (.agg #[r]) ∧ Rd w' r zs ∧ Nm zs ∧ val zs = val xs * val ys ∧ Below w.heap.size w w' ∧ FrA w.heap.size r := by
  have H1 : Hid (Rd w v1 xs) := h1
  have H2 : Hid (Rd w v2 ys) := h2
  clear h1 h2
  subst e1 e2
  have pr : Below w.heap.size w (((w.alloc (.cells #[.slice a2 ys.length c2] 57)).alloc (.cells #[.slice a1 xs.length c1] 57)).alloc (.cells #[.slice none 0 0] 57)) := (((Below.refl _ _).alloc (Nat.le_refl _) _).alloc (by simp) _).alloc (by simp; omega) _
  go_enter Tryz.func69, Tryz.ntmps69
  go_wp2_with fail
  refine (mulPlainly_anyF _ _ ys xs _ (H2.out.grow pr) (H1.out.grow pr) hL (by omega)).mono ?_
  rintro e w4 ⟨r, zs, rfl, hrd, hnm, hvz, hbl, hfr⟩
  obtain ⟨ra, rl, rc, rfl⟩ := hrd.shape
  have V2 := (Bx.new _ _ _).below hbl
  simp only [World.size_alloc] at V2
  have v1 := V2.1
  have v2 := V2.2
  have HVZ : Hid (val zs = val xs * val ys) := hvz.trans (Int.mul_comm _ _)
  clear hvz
  go_wp2
  refine bodyPost_ret (v := .agg #[.slice ra rl rc]) (by simp [results, Tryz.results69, go_sem, v1]) rfl ⟨_, zs, rfl, hrd.box V2, hnm, HVZ.out, below_put (pr.trans (hbl.mono pr.size)) (by omega) _, fun b o l c e => Nat.le_trans pr.size (hfr b o l c e)⟩

/-- (Nat).Mul, where one of both is short. -/
theorem Mul_shortF (v1 v2 : Value) (xs ys : List Int) (w : World) (h1 : Rd w v1 xs) (h2 : Rd w v2 ys) (hs : xs.length < 80 ∨ ys.length < 80) (l1 : xs.length ≤ 274877906944) (l2 : ys.length ≤ 274877906944) :
    Calls Tryz.prog 69 #[.agg #[v1], .agg #[v2]] w fun e w' => ∃ r zs, e = .returned (.agg #[r]) ∧ Rd w' r zs ∧ Nm zs ∧ val zs = val xs * val ys ∧ Below w.heap.size w w' ∧ FrA w.heap.size r := by
  obtain ⟨_, a1, c1, e1, _, _, _⟩ := id h1
  obtain ⟨_, a2, c2, e2, _, _, _⟩ := id h2
  by_cases h : ys.length ≤ xs.length
  · exact mul_longF v1 v2 a1 a2 c1 c2 xs ys w e1 e2 h1 h2 h (by omega) l1
  · exact mul_shortF v1 v2 a1 a2 c1 c2 xs ys w e1 e2 h1 h2 (by omega) (by omega) l2
end Go.Proofs.YtiaeoknmgidehaaGreatDoor
