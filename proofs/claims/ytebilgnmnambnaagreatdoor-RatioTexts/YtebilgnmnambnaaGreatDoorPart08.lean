import Derived.Test.YtebilgnmnambnaaGreatDoorPart07

namespace Go.Proofs.YtebilgnmnambnaaGreatDoor.L
open Go.RowKit Tl
theorem bits_mask (S : Int) (r : Nat) (hr : r < 30) (h0 : 0 ≤ S) (h1 : S ≤ 576460752303423488) : bits .and .i64 S (2 ^ r - 1) = S % 2 ^ r := by
  obtain ⟨a, rfl⟩ := Int.eq_ofNat_of_zero_le h0
  have hp : 2 ^ r ≤ 2 ^ 29 := Nat.pow_le_pow_right (by decide) (by omega)
  have hp0 : 0 < 2 ^ r := Nat.two_pow_pos r
  have e : (2 : Int) ^ r - 1 = ((2 ^ r - 1 : Nat) : Int) := by
    have e : ((2 ^ r : Nat) : Int) = (2 : Int) ^ r := by simp
    omega
  have a1 : (BitVec.ofInt 64 ((a : Nat) : Int)).toNat = a := by
    rw [BitVec.ofInt_natCast, BitVec.toNat_ofNat]; exact Nat.mod_eq_of_lt (by omega)
  have a2 : (BitVec.ofInt 64 ((2 ^ r - 1 : Nat) : Int)).toNat = 2 ^ r - 1 := by
    rw [BitVec.ofInt_natCast, BitVec.toNat_ofNat]; exact Nat.mod_eq_of_lt (by omega)
  rw [e]
  show IntKind.i64.wrap ((BitVec.ofInt 64 ((a : Nat) : Int) &&& BitVec.ofInt 64 ((2 ^ r - 1 : Nat) : Int)).toNat : Int) = _
  rw [BitVec.toNat_and, a1, a2, Nat.and_two_pow_sub_one_eq_mod]
  have hm := Nat.mod_lt a hp0
  rw [wrap_self _ (by omega) (by omega)]
  simp
theorem shr_val {xs X : List Int} {n q r : Nat} {cy : Int} (hx : Wd xs) (hq : q < xs.length) (en : n = 30 * q + r) (c0 : 0 ≤ cy) (c1 : cy < 2 ^ r) (h : val X * 2 ^ r + cy = val (xs.drop q)) : val X = val xs / 2 ^ n := by
  have p0 : (0 : Int) < 2 ^ r := Int.pow_pos (by decide)
  have e1 := val_split xs q (by omega)
  have t0 := val_nonneg (hx.take q)
  have t1 := val_lt (hx.take q)
  rw [List.length_take, Nat.min_eq_left (by omega)] at t1
  have pq := pw_pos q
  have e2 : val xs / pw q = val (xs.drop q) := by
    rw [e1, Int.add_mul_ediv_left _ _ (by omega), Int.ediv_eq_zero_of_lt t0 t1]; omega
  have e3 : val (xs.drop q) / 2 ^ r = val X := by
    rw [← h, Int.add_comm, Int.add_mul_ediv_right _ _ (by omega), Int.ediv_eq_zero_of_lt c0 c1]; omega
  rw [en, Int.pow_add, ← pw_two, ← Int.ediv_ediv_of_nonneg (Int.le_of_lt pq), e2, e3]
set_option maxHeartbeats 1600000 in
set_option maxRecDepth 100000 in
theorem shr_some (b1 o1 c1 : Nat) (xs : List Int) (n q r : Nat) (w : World) (hx : Wd xs) (hc1 : Cells w b1 o1 xs) (l1 : xs.length ≤ 549755813888) (l2 : xs.length ≤ c1) (l3 : c1 ≤ 9223372036854775807) (hn : n ≤ 1099511627776) (hq : (n : Int) / 30 = q) (hr : (n : Int) % 30 = r) (hlt : q < xs.length) :
    Calls Tryz.prog 185 #[.slice (some ⟨b1, o1, none⟩) xs.length c1, .int .i64 n] w fun e w' => ∃ v zs, e = .returned v ∧ Rd w' v zs ∧ Nm zs ∧ val zs = val xs / 2 ^ n ∧ Below w.heap.size w w' := by
  have r1 : r < 30 := by omega
  have hge : ¬ ((xs.length : Int) ≤ q) := by omega
  have hcap : q < c1 := by omega
  obtain ⟨Y, hY⟩ : ∃ Y, Y = xs.drop q := ⟨_, rfl⟩
  have lY : Y.length = xs.length - q := by rw [hY, List.length_drop]
  have wY : Wd Y := by rw [hY]; exact hx.drop q
  have cY : Hid (Cells w b1 (o1 + q) Y) := by rw [hY]; exact hc1.drop q
  have HY : Hid (Y = xs.drop q) := hY
  clear hY
  have hp : ((2 : Int) ^ r) ≤ 536870912 := by
    have h : 2 ^ r ≤ 2 ^ 29 := Nat.pow_le_pow_right (by decide) (by omega)
    have e : ((2 ^ r : Nat) : Int) = (2 : Int) ^ r := by simp
    rw [← e]; omega
  have hp0 : (0 : Int) < 2 ^ r := Int.pow_pos (by decide)
  go_enter Tryz.func185, Tryz.ntmps185
  go_wp2_with (first
    | (at_builtin; refine wpList_append_nat rfl _ _ rfl w.heap.size w.heap.size #[] rfl (heap_alloc_new _ _) rfl (Nat.le_refl _) b1 (o1 + q) (xs.length - q) (c1 - q) Y rfl lY.symm (cY.out.grow ((Below.refl _ _).alloc (Nat.le_refl _) _)) (by omega) (by simp) ?_; intro g cap w1 hown hg ho hcap2 hlc hcs hbl; clear hown)
    | fail)
  go_loopw [6, 7] (fun c i wr => ∃ (j : Nat) (cy : Int) (X : List Int), j ≤ Y.length ∧ c = .int .i64 cy ∧ i = .int .i64 ((j : Int) - 1) ∧ 0 ≤ cy ∧ cy < 2 ^ r ∧ X.length = Y.length ∧ Wd X ∧ X.take j = Y.take j ∧ val (X.drop j) * 2 ^ r + cy = val (Y.drop j) ∧ Cells wr g 0 X ∧ Wr g 0 Y.length w1 wr) (fun _ i _ => (intOf i + 1).toNat)
  case atStart => exact ⟨Y.length, 0, Y, Nat.le_refl _, rfl, by go_num, by omega, hp0, rfl, wY, rfl, by simp [val], hcs, Wr.refl _ _ _ _⟩
  case round =>
    obtain ⟨j, cy, X, hj, rfl, rfl, r0, r2, hl, hX, ht, hv, hc, hwr⟩ := hrel
    have HV : Hid (val (X.drop j) * 2 ^ r + cy = val (Y.drop j)) := hv
    have HT : Hid (X.take j = Y.take j) := ht
    clear hv ht
    have hb := ((Below.refl w.heap.size w).alloc (Nat.le_refl _) (Obj.cells #[] 3)).trans (hbl.trans (hwr.below (B := w.heap.size) hg (by have := hbl.size; simp at this; omega)))
    by_cases hlt2 : 0 < j
    · obtain ⟨i, rfl⟩ : ∃ i, j = i + 1 := ⟨j - 1, by omega⟩
      have kx := hc.at (i := i) (by omega)
      have kf := ((ho.wr hwr).free 0 Y.length) i (by omega)
      rw [Nat.zero_add] at kx kf
      have bx := nth_bd hX i
      obtain ⟨S, hS⟩ : ∃ S, nth X i + cy * 1073741824 = S := ⟨_, rfl⟩
      have p1 : IntKind.i64.wrap (cy * 1073741824) = cy * 1073741824 := wrap_self _ (by omega) (by omega)
      have p2 : IntKind.i64.wrap (nth X i + cy * 1073741824) = S := by rw [hS]; exact wrap_self _ (by omega) (by omega)
      have s0 : 0 ≤ S := by omega
      have s1 : S ≤ 576460752303423488 := by omega
      have t1 : ((i : Int) + 1 - 1) = i := by omega
      have eX : nth X i = nth Y i := by
        have := congrArg (fun l => nth l i) HT.out
        rwa [nth_take _ _ _ (by omega), nth_take _ _ _ (by omega)] at this
      have R : Hid _ := quo_step (s := S) hX (by omega) (by omega) hp0 r0 r2 (nth_bd wY i).1 (nth_bd wY i).2 (by omega) HV.out
      have bm := bits_mask S r r1 s0 s1
      clear hS eX
      go_wp2
      go_roundw
      case rel =>
        refine ⟨i, _, _, by omega, rfl, by go_num, R.out.2.2.1, R.out.2.2.2, by simp [hl], R.out.1, ?_, R.out.2.1, by simpa using hc.set i (by omega) _, by simpa using hwr.setCell i (by omega) _⟩
        rw [take_set_same]
        have := congrArg (List.take i) HT.out
        rwa [List.take_take, List.take_take, Nat.min_eq_left (by omega)] at this
      case measure => simp [intOf]
    · have ek : j = 0 := by omega
      subst ek
      have Rv : Hid (val X = val xs / 2 ^ n) := by
        have h := HV.out
        rw [List.drop_zero, List.drop_zero, HY.out] at h
        exact shr_val hx hlt (by omega) r0 r2 h
      clear HV HT
      go_wp2_with (first
        | (go_at_call 141; refine (norm_rd _ _ _ X _ (by omega) hX (by omega) hcap2 (fun _ => ⟨_, _, rfl, hc⟩)).mono ?_; rintro e w' ⟨n', zs, rfl, hrd, hnm, hvz, rfl⟩; have hvz' : Hid _ := hvz.trans Rv.out; clear hvz)
        | fail)
      go_ret
      exact ⟨_, zs, rfl, hrd, hnm, hvz'.out, hb⟩
set_option maxRecDepth 100000 in
theorem shr_none (a1 : Option Addr) (l c1 : Nat) (n q : Int) (w : World) (hn0 : 0 ≤ n) (hn1 : n ≤ 1099511627776) (hq : n / 30 = q) (hl : (l : Int) ≤ q) :
    Calls Tryz.prog 185 #[.slice a1 l c1, .int .i64 n] w fun e w' => e = .returned (.slice none 0 0) ∧ w' = w := by
  go_enter Tryz.func185, Tryz.ntmps185
  go_wp2
  go_ret
  exact ⟨rfl, rfl⟩
theorem Shr_any (v : Value) (xs : List Int) (n : Nat) (w : World) (h : Rd w v xs) (l1 : xs.length ≤ 549755813888) (hn : n ≤ 1099511627776) :
    Calls Tryz.prog 185 #[v, .int .i64 n] w fun e w' => ∃ r zs, e = .returned r ∧ Rd w' r zs ∧ Nm zs ∧ val zs = val xs / 2 ^ n ∧ Below w.heap.size w w' := by
  obtain ⟨hx, a1, c1, rfl, h2, h3, g1⟩ := h
  by_cases ne : n / 30 < xs.length
  · obtain ⟨b, o, rfl, hc⟩ := g1 (by omega)
    exact shr_some b o c1 xs n (n / 30) (n % 30) w hx hc l1 h2 h3 hn (by simp) (by simp) ne
  · refine (shr_none a1 xs.length c1 n ((n / 30 : Nat) : Int) w (by omega) (by omega) (by omega) (by omega)).mono ?_
    rintro e w' ⟨rfl, rfl⟩
    refine ⟨_, [], rfl, rd_nil _, Or.inl rfl, ?_, Below.refl _ _⟩
    have v0 := val_nonneg hx
    have v1 := val_lt hx
    have p := pw_mono (show xs.length ≤ n / 30 by omega)
    have e2 : pw (n / 30) ≤ 2 ^ n := by
      rw [pw_two]
      have h : 2 ^ (30 * (n / 30)) ≤ 2 ^ n := Nat.pow_le_pow_right (by decide) (by omega)
      exact_mod_cast h
    exact (Int.ediv_eq_zero_of_lt v0 (by omega)).symm
end Go.Proofs.YtebilgnmnambnaaGreatDoor.L

namespace Go.Proofs.YtebilgnmnambnaaGreatDoor.L
open Go.RowKit Tl
/- Long division: what lies where, and how it begins. -/
theorem own_parts {w : World} {base : Nat} {e : TypeId} {v : Value} {Y : List Int} (h : w.ownsRow base e 1 v Y.length (Y.map (Value.int .i64))) (ne : 0 < Y.length) :
    ∃ g cap, v = .slice (some ⟨g, 0, none⟩) Y.length cap ∧ base ≤ g ∧ Own w g ∧ Y.length ≤ cap ∧ cap ≤ 9223372036854775807 ∧ Cells w g 0 Y := by
  obtain ⟨_, h2⟩ := h
  rcases h2 with ⟨rfl, h2⟩ | ⟨g, cap, cur, rfl, e2, e3, e4, e5, e6, e7⟩
  · omega
  · refine ⟨g, cap, rfl, e2, ⟨cur, _, e3⟩, e4, e5, ?_⟩
    intro i hi
    rw [Nat.mul_one] at e7
    have h7 := congrArg (fun l : List Value => l[i]?) e7
    simp only [List.getElem?_take, hi, if_true, List.getElem?_map] at h7
    simp only [World.cell?, e3, Nat.zero_add, Option.isSome_none, Bool.false_eq_true, if_false]
    rw [Array.getElem?_toList] at h7
    rw [h7]
    simp [nth, List.getD_eq_getElem?_getD, List.getElem?_eq_getElem hi]
structure Lay (w wr : World) (bv ov gU gQ : Nat) (V U Q : List Int) : Prop where
  h1 : bv < gU
  h2 : gU < gQ
  h3 : w.heap.size ≤ gU
  below : Below w.heap.size w wr
  cv : Cells wr bv ov V
  cu : Cells wr gU 0 U
  cq : Cells wr gQ 0 Q
  ou : Own wr gU
  oq : Own wr gQ
theorem Lay.drewN {w wr : World} {bv ov gU gQ : Nat} {V U Q : List Int} (h : Lay w wr bv ov gU gQ V U Q) (m : Nat) : Lay w (wr.drewN m) bv ov gU gQ V U Q := ⟨h.h1, h.h2, h.h3, ⟨h.below.os, h.below.tape, h.below.output, h.below.size, h.below.block⟩, h.cv, h.cu, h.cq, h.ou, h.oq⟩
theorem Lay.setU {w wr : World} {bv ov gU gQ : Nat} {V U Q : List Int} (h : Lay w wr bv ov gU gQ V U Q) (k : Nat) (hk : k < U.length) (x : Int) : Lay w (wr.setCell ⟨gU, k, none⟩ (.int .i64 x)) bv ov gU gQ V (U.set k x) Q := by
  have hw : Wr gU 0 U.length wr (wr.setCell ⟨gU, k, none⟩ (.int .i64 x)) := (Wr.refl _ _ _ _).setCell k (by omega) _
  have a := h.h1; have b := h.h2; have c := h.h3
  exact ⟨a, b, c, h.below.trans (hw.below c h.below.size), h.cv.other hw (by omega), by simpa using h.cu.set k hk x, h.cq.other hw (by omega), h.ou.wr hw, h.oq.wr hw⟩
theorem Lay.setQ {w wr : World} {bv ov gU gQ : Nat} {V U Q : List Int} (h : Lay w wr bv ov gU gQ V U Q) (k : Nat) (hk : k < Q.length) (x : Int) : Lay w (wr.setCell ⟨gQ, k, none⟩ (.int .i64 x)) bv ov gU gQ V U (Q.set k x) := by
  have hw : Wr gQ 0 Q.length wr (wr.setCell ⟨gQ, k, none⟩ (.int .i64 x)) := (Wr.refl _ _ _ _).setCell k (by omega) _
  have a := h.h1; have b := h.h2; have c := h.h3
  exact ⟨a, b, c, h.below.trans (hw.below (by omega) h.below.size), h.cv.other hw (by omega), h.cu.other hw (by omega), by simpa using h.cq.set k hk x, h.ou.wr hw, h.oq.wr hw⟩
theorem Lay.atU {w wr : World} {bv ov gU gQ : Nat} {V U Q : List Int} (h : Lay w wr bv ov gU gQ V U Q) {k : Nat} (hk : k < U.length) : wr.cell? ⟨gU, k, none⟩ = some (.int .i64 (nth U k)) := by have := h.cu.at hk; rwa [Nat.zero_add] at this
theorem Lay.freeU {w wr : World} {bv ov gU gQ : Nat} {V U Q : List Int} (h : Lay w wr bv ov gU gQ V U Q) (k : Nat) : wr.frozen? ⟨gU, k, none⟩ = false := by have := h.ou.free 0 (k + 1) k (by omega); rwa [Nat.zero_add] at this
theorem Lay.freeQ {w wr : World} {bv ov gU gQ : Nat} {V U Q : List Int} (h : Lay w wr bv ov gU gQ V U Q) (k : Nat) : wr.frozen? ⟨gQ, k, none⟩ = false := by have := h.oq.free 0 (k + 1) k (by omega); rwa [Nat.zero_add] at this
theorem two_le {s : Nat} (hs : s ≤ 29) : (0 : Int) < 2 ^ s ∧ (2 : Int) ^ s ≤ 536870912 ∧ ∃ u : Int, 2 ^ s * u = 1073741824 := by
  have h : 2 ^ s ≤ 2 ^ 29 := Nat.pow_le_pow_right (by decide) hs
  have e : ((2 ^ s : Nat) : Int) = (2 : Int) ^ s := by simp
  refine ⟨Int.pow_pos (by decide), by omega, 2 ^ (30 - s), ?_⟩
  rw [← Int.pow_add, show s + (30 - s) = 30 from by omega]; decide
theorem shift_len {ys V : List Int} {s : Nat} (hy : Wd ys) (ny : Nm ys) (l : 0 < ys.length) (hV : Wd V) (nV : Nm V) (hs : s ≤ 29) (ht : nth ys (ys.length - 1) * 2 ^ s < 1073741824) (e : val V = val ys * 2 ^ s) : V.length = ys.length := by
  obtain ⟨p0, p1, u, hu⟩ := two_le hs
  have ne : ys ≠ [] := by intro h; rw [h] at l; simp at l
  have lo := val_low hy ny ne
  have at1 := val_at ys (ys.length - 1) (by omega)
  rw [show ys.length - 1 + 1 = ys.length from by omega, List.take_length] at at1
  have t1 := val_lt (hy.take (ys.length - 1))
  rw [List.length_take, Nat.min_eq_left (by omega)] at t1
  have b := nth_bd hy (ys.length - 1)
  have hu1 : nth ys (ys.length - 1) + 1 ≤ u := by
    have : nth ys (ys.length - 1) * 2 ^ s < u * 2 ^ s := by rw [Int.mul_comm u]; omega
    have := Int.lt_of_mul_lt_mul_right this (Int.le_of_lt p0)
    omega
  have p := pw_pos (ys.length - 1)
  have hi : val ys ≤ (nth ys (ys.length - 1) + 1) * pw (ys.length - 1) := by
    rw [at1]; have : (nth ys (ys.length - 1) + 1) * pw (ys.length - 1) = pw (ys.length - 1) * nth ys (ys.length - 1) + pw (ys.length - 1) := by grind
    omega
  have hi2 : val ys < u * pw (ys.length - 1) := by
    have h1 : val ys < (nth ys (ys.length - 1) + 1) * pw (ys.length - 1) := by
      rw [at1]; have : (nth ys (ys.length - 1) + 1) * pw (ys.length - 1) = pw (ys.length - 1) * nth ys (ys.length - 1) + pw (ys.length - 1) := by grind
      omega
    have := Int.mul_le_mul_of_nonneg_right hu1 (Int.le_of_lt p)
    omega
  have hV1 : val V < pw ys.length := by
    have h1 := Int.mul_lt_mul_of_pos_right hi2 p0
    have h2 : u * pw (ys.length - 1) * 2 ^ s = pw ys.length := by
      rw [show ys.length = ys.length - 1 + 1 from by omega, pw, ← hu, show ys.length - 1 + 1 - 1 = ys.length - 1 from by omega]; grind
    omega
  have hV0 : pw (ys.length - 1) ≤ val V := by
    rw [e]
    have := Int.mul_le_mul_of_nonneg_left (show 1 ≤ (2 : Int) ^ s by omega) (show 0 ≤ val ys by omega)
    omega
  have up : V.length ≤ ys.length := by
    by_cases c : V.length ≤ ys.length
    · exact c
    · have nv : V ≠ [] := by intro h; rw [h] at c; simp at c
      have := val_low hV nV nv
      have := pw_mono (show ys.length ≤ V.length - 1 by omega)
      omega
  have dn : ys.length ≤ V.length := by
    by_cases c : ys.length ≤ V.length
    · exact c
    · have := val_lt hV
      have := pw_mono (show V.length ≤ ys.length - 1 by omega)
      omega
  omega
theorem shl_len {xs A : List Int} {s : Nat} (hx : Wd xs) (hA : Wd A) (nA : Nm A) (hs : s ≤ 29) (e : val A = val xs * 2 ^ s) : A.length ≤ xs.length + 1 := by
  obtain ⟨p0, p1, _⟩ := two_le hs
  by_cases c : A.length ≤ xs.length + 1
  · exact c
  · have nv : A ≠ [] := by intro h; rw [h] at c; simp at c
    have l := val_low hA nA nv
    have m := pw_mono (show xs.length + 1 ≤ A.length - 1 by omega)
    have h := val_lt hx
    have h0 := val_nonneg hx
    have a := Int.mul_le_mul_of_nonneg_left p1 h0
    have p := pw_pos xs.length
    have : pw (xs.length + 1) = 1073741824 * pw xs.length := rfl
    omega
theorem start_lt {xs ys U V : List Int} {s M : Nat} (hx : Wd xs) (hy : Wd ys) (ny : Nm ys) (l : 0 < ys.length) (eU : val U = val xs * 2 ^ s) (eV : val V = val ys * 2 ^ s) (hs : s ≤ 29) (hM : xs.length + 1 = M + ys.length) : val U < pw M * val V := by
  obtain ⟨p0, p1, _⟩ := two_le hs
  have ne : ys ≠ [] := by intro h; rw [h] at l; simp at l
  have lo := val_low hy ny ne
  have h := val_lt hx
  rw [show xs.length = M + (ys.length - 1) from by omega, pw_add] at h
  have a := Int.mul_le_mul_of_nonneg_left lo (Int.le_of_lt (pw_pos M))
  have b := Int.mul_lt_mul_of_pos_right (show val xs < pw M * val ys by omega) p0
  rw [eU, eV]
  have : pw M * (val ys * 2 ^ s) = pw M * val ys * 2 ^ s := by grind
  omega
theorem shift_back {X Y Q R s : Int} (s0 : 0 < s) (_y0 : 0 < Y) (h : Q * (Y * s) + R = X * s) (r0 : 0 ≤ R) (r1 : R < Y * s) : X = Q * Y + R / s ∧ 0 ≤ R / s ∧ R / s < Y := by
  have e : R = (X - Q * Y) * s := by grind
  have e2 : R / s = X - Q * Y := by rw [e]; exact Int.mul_ediv_cancel _ (by omega)
  refine ⟨by omega, Int.ediv_nonneg r0 (by omega), ?_⟩
  rw [e2]
  have : (X - Q * Y) * s < Y * s := by omega
  exact Int.lt_of_mul_lt_mul_right this (by omega)
set_option maxRecDepth 100000 in
theorem dm_less (v1 v2 : Value) (xs ys : List Int) (w : World) (h1 : Rd w v1 xs) (h2 : Rd w v2 ys) (n1 : Nm xs) (n2 : Nm ys) (l1 : xs.length ≤ 274877906944) (hlt : val xs < val ys) :
    Calls Tryz.prog 142 #[v1, v2] w fun e w' => e = .returned (.tuple #[.slice none 0 0, v1]) ∧ Below w.heap.size w w' := by
  have hc : cmp3 (val xs) (val ys) = -1 := cmp3_lt hlt
  go_enter Tryz.func142, Tryz.ntmps142
  go_wp2_with (first
    | (go_at_call 98; refine (Cmp_any v1 v2 xs ys _ h1 h2 n1 n2 (by omega)).mono ?_; rintro e w' ⟨rfl, hb⟩)
    | fail)
  exact bodyPost_ret (v := .tuple #[.slice none 0 0, v1]) (by simp [results, Tryz.results142, go_sem]) rfl ⟨rfl, hb⟩
set_option maxHeartbeats 1600000 in
set_option maxRecDepth 100000 in
theorem dm_one (v1 v2 : Value) (xs ys : List Int) (w : World) (h1 : Rd w v1 xs) (h2 : Rd w v2 ys) (n1 : Nm xs) (n2 : Nm ys) (l1 : xs.length ≤ 274877906944) (hle : val ys ≤ val xs) (hl : ys.length = 1) :
    Calls Tryz.prog 142 #[v1, v2] w fun e w' => ∃ q r zs rs, e = .returned (.tuple #[q, r]) ∧ Rd w' q zs ∧ Nm zs ∧ Rd w' r rs ∧ Nm rs ∧ val xs = val zs * val ys + val rs ∧ 0 ≤ val rs ∧ val rs < val ys ∧ Below w.heap.size w w' := by
  have hc : ¬ cmp3 (val xs) (val ys) < 0 := by unfold cmp3; rw [if_neg (by omega)]; split <;> omega
  obtain ⟨d, rfl⟩ : ∃ d, ys = [d] := by
    match ys, hl with
    | [d], _ => exact ⟨d, rfl⟩
  have hd := (h2.1).head
  have d0 : d ≠ 0 := by
    rcases n2 with h | h
    · cases h
    · simpa using h
  have hR2 : Hid (∀ w', Below w.heap.size w w' → Rd w' v2 [d]) := fun w' k => h2.grow k
  have hR1 : Hid (∀ w', Below w.heap.size w w' → Rd w' v1 xs) := fun w' k => h1.grow k
  have h2' := h2
  obtain ⟨_, a2, c2, rfl, _, _, g2⟩ := h2'
  obtain ⟨b2, o2, rfl, cs2⟩ := g2 (by simp)
  go_enter Tryz.func142, Tryz.ntmps142
  go_wp2_with (first
    | (go_at_call 98; refine (Cmp_any v1 _ xs [d] _ h1 h2 n1 n2 (by omega)).mono ?_; rintro e w1 ⟨rfl, hb⟩; have k1 := (cs2.grow hb).at (i := 0) (by simp); rw [Nat.add_zero] at k1; have k2 : nth [d] 0 = d := rfl; rw [k2] at k1)
    | (go_at_call 113; refine (small_any v1 xs d _ (hR1.out _ hb) (by omega) (by omega) hd.2).mono ?_; rintro e w2 ⟨r, zs, m, rfl, hr, hn, hv, m0, m1, hb2⟩; have HV : Hid (val zs * d + m = val xs) := hv; clear hv)
    | (go_at_call 100; refine (NatOf_any m _ m0 (by omega)).mono ?_; rintro e w3 ⟨r2, rs, rfl, hr3, hn3, hv3, hb3⟩)
    | fail)
  have e1 : val [d] = d := by simp [val]
  have hbb := hb.trans ((hb2.mono hb.size).trans (hb3.mono (Nat.le_trans hb.size hb2.size)))
  exact bodyPost_ret (v := .tuple #[r, r2]) (by simp [results, Tryz.results142, go_sem]) rfl ⟨_, _, zs, rs, rfl, hr.grow hb3, hn, hr3, hn3, by rw [e1, hv3]; exact HV.out.symm, by omega, by rw [e1]; omega, hbb⟩
end Go.Proofs.YtebilgnmnambnaaGreatDoor.L
