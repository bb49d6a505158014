import Derived.Test.YtebilgnmnambnaaGreatDoorPart23
import Derived.Test.YtebilgnmnambnaaGreatDoorPart20
import Derived.Test.YtebilgnmnambnaaGreatDoorPart21

namespace Go.Proofs.YtebilgnmnambnaaGreatDoor.Mo
open Go.RowKit Dc Tn
theorem undrew {W w1 : World} (b : Below W.drew.heap.size W.drew w1) : Below W.heap.size W w1 := (show Below W.heap.size W W.drew from (Below.refl _ _).drew).trans b
set_option maxHeartbeats 1600000 in
set_option maxRecDepth 100000 in
theorem OfWhole_any (g : Bool) (v : Value) (xs : List Int) (w : World) (h : Rd w v xs) (n : Nm xs) :
  Calls Tryz.prog 102 #[.bool g, .agg #[v]] w fun e w' => ∃ r zs, e = .returned (.agg #[.bool (g && !decide (val xs = 0)), v, r]) ∧ Rd w' v xs ∧ Rd w' r zs ∧ Nm zs ∧ val zs = 1 ∧ Below w.heap.size w w' := by
 have H : Hid (Rd w v xs) := h
 obtain ⟨a1, m1, c1, rfl⟩ := h.shape
 clear h
 have O := fun W => Of_any 1 W (by decide) (by decide)
 have K0 : Bx ((w.alloc (.cells #[.slice a1 m1 c1] 65)).alloc (.cells #[.bool false, .slice none 0 0, .slice none 0 0] 67)) w.heap.size (.slice a1 m1 c1) := (Bx.new w (.slice a1 m1 c1) 65).alloc _
 have K1 := Rb.new (w.alloc (.cells #[.slice a1 m1 c1] 65)) (.bool false) (.slice none 0 0) (.slice none 0 0) 67
 have pr : Below w.heap.size w ((w.alloc (.cells #[.slice a1 m1 c1] 65)).alloc (.cells #[.bool false, .slice none 0 0, .slice none 0 0] 67)) := ((Below.refl _ _).alloc (Nat.le_refl _) _).alloc (by simp) _
 simp only [World.size_alloc] at K1
 obtain ⟨q, hq⟩ : ∃ q, decide (val xs = 0) = q := ⟨_, rfl⟩
 have hs := pr.size
 cases g
 ·go_enter Tryz.func102, Tryz.ntmps102
  go_wp2_with fail
  generalize (w.alloc (.cells #[.slice a1 m1 c1] 65)).alloc (.cells #[.bool false, .slice none 0 0, .slice none 0 0] 67) = W at *
  have e0 := K0.1
  go_region_with (first
   | (go_at_call 65; refine (O _).mono ?_; rintro e w2 ⟨r, zs, rfl, hr, hn, hv, b2⟩; obtain ⟨a2, m2, c2, rfl⟩ := hr.shape; have bb := undrew b2; have f0 := (K0.below bb).1; have R := K1.grow bb; have r0 := R.c0; have r1 := R.c1; have r2 := R.c2; have s0 := R.f0; have s1 := R.f1; have s2 := R.f2)
   | fail)
  all_goals
   obtain ⟨F0, F1, F2⟩ := R.put (.bool false) (.slice a1 m1 c1) (.slice a2 m2 c2)
   go_wp2
   exact bodyPost_ret (v := .agg #[.bool false, .slice a1 m1 c1, .slice a2 m2 c2]) (by simp [results, Tryz.results102, go_sem, F0, F1, F2]) rfl ⟨_, zs, rfl, Rd.putF ((H.out.grow pr).grow bb) R, Rd.putF hr R, hn, hv, bset3 (bel' pr bb) (by omega)⟩
 ·have Z : ∀ x, Below w.heap.size w x → Calls Tryz.prog 48 #[.agg #[.slice a1 m1 c1]] x fun e w' => e = .returned (.bool q) ∧ Below x.heap.size x w' := fun x b => by have := IsZero_any (.slice a1 m1 c1) xs x (H.out.grow b) n; rw [hq] at this; exact this
  rw [hq]
  go_enter Tryz.func102, Tryz.ntmps102
  go_wp2_with fail
  generalize (w.alloc (.cells #[.slice a1 m1 c1] 65)).alloc (.cells #[.bool false, .slice none 0 0, .slice none 0 0] 67) = W at *
  have e0 := K0.1
  go_region_held3 (fun x => x.cell? ⟨w.heap.size, 0, none⟩ = some (.slice a1 m1 c1)) (go_keep) (first
   | (go_at_call 48; refine (Z _ pr.drew).mono ?_; rintro e w1 ⟨rfl, b1⟩; have b1 := undrew b1; have g0 := (K0.below b1).1)
   | (go_at_call 65; refine (O _).mono ?_; rintro e w2 ⟨r, zs, rfl, hr, hn, hv, b2⟩; obtain ⟨a2, m2, c2, rfl⟩ := hr.shape; have bb := bel' b1 b2; have f0 := (K0.below bb).1; have R := K1.grow bb; have r0 := R.c0; have r1 := R.c1; have r2 := R.c2; have s0 := R.f0; have s1 := R.f1; have s2 := R.f2)
   | fail)
  obtain ⟨F0, F1, F2⟩ := R.put (.bool (!q)) (.slice a1 m1 c1) (.slice a2 m2 c2)
  go_wp2
  exact bodyPost_ret (v := .agg #[.bool (!q), .slice a1 m1 c1, .slice a2 m2 c2]) (by simp [results, Tryz.results102, go_sem, F0, F1, F2]) rfl ⟨_, zs, rfl, Rd.putF ((H.out.grow pr).grow bb) R, Rd.putF hr R, hn, hv, bset3 (bel' pr bb) (by omega)⟩
end Go.Proofs.YtebilgnmnambnaaGreatDoor.Mo

namespace Go.Proofs.YtebilgnmnambnaaGreatDoor.Mo
open Go.RowKit Dc Tn
def goodE (n d : ByteArray) : Int := if shB n d = false then 5 else if 4096 < (rest n).size ∨ 4096 < d.size then 3 else if Int.gcd (Dc.num (rest n).data.toList : Int) (Dc.num d.data.toList : Int) ≠ 1 then 5 else 0
theorem natB_dg {s : ByteArray} (h : natB s = true) : ∀ c ∈ s.data.toList, Dc.Dg c := by
 unfold natB at h
 rw [Bool.and_eq_true, Bool.and_eq_true, List.all_eq_true] at h
 intro c hc
 have := h.1.1 c hc
 simp only [decide_eq_true_iff] at this
 exact this
theorem Read_any (n d : ByteArray) (w : World) (hn : n.size ≤ 9223372036854775807) (hd : d.size ≤ 9223372036854775807) :
  Calls Tryz.prog 47 #[.agg #[.string n, .string d]] w fun e w' => Below w.heap.size w w' ∧ ((goodE n d ≠ 0 ∧ e = .returned (noR (goodE n d))) ∨ (goodE n d = 0 ∧ ∃ v1 v2 xs ys, e = .returned (.tuple #[.agg #[.bool (neg n), v1, v2], .int .i64 0]) ∧ Rd w' v1 xs ∧ Nm xs ∧ val xs = (Dc.num (rest n).data.toList : Int) ∧ xs.length ≤ 400 ∧ Rd w' v2 ys ∧ Nm ys ∧ val ys = (Dc.num d.data.toList : Int) ∧ ys.length ≤ 400)) := by
 unfold goodE
 rcases h : shB n d with _ | _
 ·refine (Read_shape n d w hn hd h).mono ?_
  rintro e w' ⟨rfl, b⟩
  exact ⟨b, Or.inl ⟨by simp, by simp⟩⟩
 ·by_cases hl : 4096 < (rest n).size ∨ 4096 < d.size
  ·refine (Read_long n d w hn hd h hl).mono ?_
   rintro e w' ⟨rfl, b⟩
   exact ⟨b, Or.inl ⟨by simp [hl], by simp [hl]⟩⟩
  ·have h' := h
   unfold shB is0 is1 at h'
   rw [Bool.and_eq_true, Bool.and_eq_true, Bool.and_eq_true, Bool.not_eq_true', Bool.not_eq_true'] at h'
   obtain ⟨⟨⟨a1, a2⟩, a3⟩, a4⟩ := h'
   have dz : ∀ c ∈ (rest n).data.toList, Dc.Dg c := natB_dg (by unfold whB at a1; rw [Bool.and_eq_true] at a1; exact a1.1)
   refine (Read_num n d (neg n) (rest n) _ _ w (by omega) (by omega) dz (natB_dg a2) (fun W => by have := IsWhole_any n W hn; rw [a1] at this; exact this) (fun W => by have := IsNatural_any d W hd; rw [a2] at this; exact this) (fun W => CutSign_any n W hn) a3 rfl rfl a4).mono ?_
   rintro e w' ⟨c, b⟩
   refine ⟨b, ?_⟩
   rw [if_neg (by simp), if_neg hl]
   generalize Int.gcd (Dc.num (rest n).data.toList : Int) (Dc.num d.data.toList : Int) = q at c ⊢
   rcases c with ⟨c1, rfl⟩ | ⟨c1, c2⟩
   ·exact Or.inl ⟨by simp [c1], by simp [c1]⟩
   ·exact Or.inr ⟨by simp [c1], c2⟩
set_option maxRecDepth 100000 in
theorem IsWay_any (k : Int) (w : World) : Calls Tryz.prog 59 #[.int .i64 k] w fun e w' => e = .returned (.bool (decide (1 ≤ k) && decide (k ≤ 6))) ∧ w' = w := by
 by_cases h1 : 1 ≤ k <;> by_cases h2 : k ≤ 6
 all_goals
  go_enter Tryz.func59, Tryz.ntmps59
  go_wp2
  go_ret
  exact ⟨by simp [h1, h2], rfl⟩
def awB (g o : Bool) (h k : Int) : Bool := if k = 1 then g else if k = 2 then !g else if k = 4 then true else if k = 5 then decide (0 ≤ h) else if k = 6 then decide (0 < h) || (decide (h = 0) && o) else false
set_option maxHeartbeats 800000 in
set_option maxRecDepth 100000 in
theorem IsAway_any (g o : Bool) (h k : Int) (w : World) (hk : 1 ≤ k) (hk6 : k ≤ 6) (hh : h = -1 ∨ h = 0 ∨ h = 1) : Calls Tryz.prog 116 #[.bool g, .bool o, .int .i64 h, .int .i64 k] w fun e w' => e = .returned (.bool (awB g o h k)) ∧ w' = w := by
 rcases (show k = 1 ∨ k = 2 ∨ k = 3 ∨ k = 4 ∨ k = 5 ∨ k = 6 by omega) with rfl | rfl | rfl | rfl | rfl | rfl <;> rcases hh with rfl | rfl | rfl <;> cases g <;> cases o
 all_goals
  go_enter Tryz.func116, Tryz.ntmps116
  go_wp2
  go_ret
  exact ⟨rfl, rfl⟩
set_option maxRecDepth 100000 in
theorem Inverse_any (g : Bool) (a1 a2 : Option Addr) (m1 c1 m2 c2 : Nat) (w : World) :
  Calls Tryz.prog 43 #[.agg #[.bool g, .slice a1 m1 c1, .slice a2 m2 c2]] w fun e w' => e = .returned (.agg #[.bool g, .slice a2 m2 c2, .slice a1 m1 c1]) ∧ Below w.heap.size w w' := by
 go_enter Tryz.func43, Tryz.ntmps43
 go_wp2
 refine bodyPost_ret (v := .agg #[.bool g, .slice a2 m2 c2, .slice a1 m1 c1]) (by simp [results, Tryz.results43, go_sem]) rfl ⟨rfl, ?_⟩
 exact ((Below.refl _ _).alloc (Nat.le_refl _) _).alloc (by simp) _
end Go.Proofs.YtebilgnmnambnaaGreatDoor.Mo

namespace Go.Proofs.YtebilgnmnambnaaGreatDoor.Mo
open Go.RowKit Dc Tn
theorem and1 (x : Int) (h0 : 0 ≤ x) (h1 : x < 18446744073709551616) : bits .and .u64 x 1 = x % 2 := by
 rw [u64_and x 1 h0 h1 (by decide) (by decide)]
 obtain ⟨n, rfl⟩ := Int.eq_ofNat_of_zero_le h0
 have := Nat.and_two_pow_sub_one_eq_mod n 1
 simp only [Int.toNat_natCast]
 have e : (1 : Int).toNat = 2 ^ 1 - 1 := rfl
 rw [e, this]; rfl
theorem val_mod2 {xs : List Int} (h : 0 < xs.length) : val xs % 2 = nth xs 0 % 2 := by
 cases xs with
 | nil => simp at h
 | cons x xs => simp only [val, nth]; simp; omega
set_option maxHeartbeats 800000 in
set_option maxRecDepth 100000 in
theorem IsOdd_any (v : Value) (xs : List Int) (w : World) (h : Rd w v xs) :
  Calls Tryz.prog 117 #[.agg #[v]] w fun e w' => e = .returned (.bool (decide (val xs % 2 = 1))) ∧ Below w.heap.size w w' := by
 obtain ⟨wx, a, c, rfl, _, _, g⟩ := h
 have pr : Below w.heap.size w (w.alloc (.cells #[.slice a xs.length c] 65)) := (Below.refl _ _).alloc (Nat.le_refl _) _
 by_cases h0 : xs = []
 ·subst h0
  have HV : Hid (decide (val [] % 2 = 1) = false) := rfl
  go_enter Tryz.func117, Tryz.ntmps117
  go_wp2
  go_ret
  exact ⟨rfl, pr⟩
 ·have hl : 0 < xs.length := List.length_pos_iff.2 h0
  obtain ⟨b, o, rfl, hc⟩ := g hl
  have c0 := hc.at (i := 0) hl
  rw [Nat.add_zero] at c0
  have ha := and1 (nth xs 0) (nth_bd wx 0).1 (nth_bd wx 0).2
  have HV : Hid (val xs % 2 = nth xs 0 % 2) := val_mod2 hl
  have hb0 := hc.lt hl
  clear h0
  obtain ⟨q, hq⟩ : ∃ q, nth xs 0 % 2 = q := ⟨_, rfl⟩
  have HQ : Hid (val xs % 2 = q) := HV.out.trans hq
  rw [hq] at ha
  have pos : (0 : Int) < (xs.length : Int) := by omega
  have c1 := (pr.cell (p := ⟨b, o, none⟩) hb0).trans c0
  clear hq HV g
  go_enter Tryz.func117, Tryz.ntmps117
  go_wp2
  go_ret
  refine ⟨?_, pr⟩
  rw [HQ.out]
  show Ending.returned (.bool (q == 1)) = _
  congr 2
end Go.Proofs.YtebilgnmnambnaaGreatDoor.Mo

namespace Go.Proofs.YtebilgnmnambnaaGreatDoor.Mo
open Go.RowKit Dc Tn
theorem slice_l0 (g o len cap : Nat) (z : Int) (hz : z = 0) (h : 0 < cap) (w : World) :
  (Instr.slice 63 (.slice (some ⟨g, o, none⟩) len cap) (some (.int .i64 z)) none none).run Tryz.prog w = .ok (.slice (some ⟨g, o, none⟩) len cap) w := by
 subst hz
 rw [run_slice_l w 63 _ len cap (by rw [Tryz.elemU]; exact Tryz.underlying63) .i64 _ (by omega) (by omega), Tryz.elemU]
 have e2 : ¬ cap = 0 := by omega
 simp [Tryz.sizeOf87, Result.andThen, sliced, e2, Addr.add]
set_option maxHeartbeats 800000 in
set_option maxRecDepth 100000 in
theorem shl_walk (k z r : Int) (v : Value) (xs : List Int) (w : World) (h : Rd w v xs) (n : Nm xs) (hL : xs.length ≤ 274877906944) (hq : Int.tdiv k 64 = z) (hm : Int.tmod k 64 = r) (hz1 : IntKind.i64.wrap z = z) (hw1 : IntKind.i64.wrap (z + (xs.length : Int)) = (xs.length : Int)) (HZ : Hid (z = 0 ∧ r = 1)) :
  Calls Tryz.prog 118 #[.agg #[v], .int .i64 k] w fun e w' => ∃ r zs, e = .returned (.agg #[r]) ∧ Rd w' r zs ∧ Nm zs ∧ val zs = val xs * 2 ∧ zs.length ≤ xs.length + 1 ∧ Below w.heap.size w w' := by
 have H : Hid (Rd w v xs) := h
 obtain ⟨wx, a, c, rfl, _, _, g⟩ := h
 have K0 := (Bx.new w (.slice a xs.length c) 65).alloc (.cells #[.slice none 0 0] 65)
 have K1 := Bx.new (w.alloc (.cells #[.slice a xs.length c] 65)) (.slice none 0 0) 65
 simp only [World.size_alloc] at K1
 have pr : Below w.heap.size w ((w.alloc (.cells #[.slice a xs.length c] 65)).alloc (.cells #[.slice none 0 0] 65)) := ((Below.refl _ _).alloc (Nat.le_refl _) _).alloc (by simp) _
 by_cases h0 : xs = []
 ·subst h0
  go_enter Tryz.func118, Tryz.ntmps118
  go_wp2_with (go_at_call 48; refine (iszero_len a _ _ _).mono ?_; rintro e w1 ⟨rfl, hb⟩; have X0 := K0.below hb; have X1 := K1.below hb; have x0 := X0.1; have x1 := X1.1; have f1 := X1.2)
  have S2 := (X1.set (.slice a ([] : List Int).length c)).1
  refine bodyPost_ret (v := .agg #[.slice a ([] : List Int).length c]) (by simp [results, Tryz.results118, go_sem] at S2 ⊢; simp [S2]) rfl ⟨_, [], rfl, ((H.out.grow pr).grow hb).box X1, n, by simp [val], by simp, below_put (bel' pr hb) (by omega) _⟩
 ·have hl : 0 < xs.length := List.length_pos_iff.2 h0
  have hzl : (xs.length == 0) = false := by rw [beq_eq_false_iff_ne]; omega
  clear h0
  go_enter Tryz.func118, Tryz.ntmps118
  go_wp2_with (first
   | (go_at_call 48; refine (iszero_len a _ _ _).mono ?_; rw [hzl]; rintro e w1 ⟨rfl, hb⟩; have X0 := K0.below hb; have X1 := K1.below hb; have x0 := X0.1; have q1 := bel' pr hb)
   | (at_make; refine wpList_make_wordsN rfl _ _ rfl (xs.length + 1) _ _ rfl rfl (by simp) (by simp) (by omega) ?_; intro w3 k1 k2 k3 k4; have Y0 := X0.below k3; have Y1 := X1.below k3; have y0 := Y0.1; have q3 := bel' q1 k3)
   | fail)
  have lt1 := X1.lt
  have kk1 : Hid (Cells w3 w1.heap.size 0 (List.replicate (xs.length + 1) 0)) := k1
  have kk2 : Hid (OwnN w3 w1.heap.size (xs.length + 1)) := k2
  clear k1 k2
  obtain ⟨N, hN⟩ : ∃ N, xs.length + 1 = N := ⟨_, rfl⟩
  rw [hN]
  have HN : Hid (xs.length + 1 = N) := hN
  have n0 : ¬ N = 0 := by omega
  have n1 : ¬ 0 = N := by omega
  clear hN
  have hsl := slice_l0 w1.heap.size 0 N N z HZ.out.1 (by omega)
  have A : ∃ b2 o2, a = some ⟨b2, o2, none⟩ ∧ b2 ≠ w1.heap.size ∧ Cells w3 b2 o2 xs := by
   obtain ⟨b2, o2, e, cc⟩ := g hl
   have := cc.lt hl
   have := q1.size
   exact ⟨b2, o2, e, by omega, cc.grow q3⟩
  have S := shiftInto_any w1.heap.size 0 N N (List.replicate (xs.length + 1) 0) a c xs.length xs 1 w3.drew (by simp [HN.out]) rfl (Wd.zeros _) wx (by simp) (by omega) (by simp; omega) kk1.out.drew kk2.out.own.drew (fun _ => by obtain ⟨b2, o2, e, ne, cc⟩ := A; exact ⟨b2, o2, e, ne, cc.drew⟩)
  rw [show ((1 : Nat) : Int) = r from HZ.out.2.symm] at S
  clear hb k3 A g
  go_region_held3 (fun x => x.cell? ⟨w.heap.size, 0, none⟩ = some (.slice a xs.length c)) (go_keep) (first | (go_at_call 164; refine S.mono ?_; rintro e w6 ⟨X, rfl, hXl, hXw, hXv, hXc, hXr⟩; have hXr2 := hXr.undrew; have z0 := (Y0.wr hXr2 (by omega)).1) | fail)
  have s1 := q1.size
  have q6 : Below w.heap.size w w6 := q3.trans (hXr2.below (B := w.heap.size) (by omega) (by omega))
  have Z1 := Y1.wr hXr2 (by omega)
  have eN : N = X.length := by rw [hXl]; exact HN.out.symm
  have T := trim_rd (some ⟨w1.heap.size, 0, none⟩) N N X w6 eN hXw (by omega) (by have := HN.out; omega) (fun _ => ⟨_, _, rfl, hXc⟩)
  have HV : Hid (val X = val xs * 2 ^ 1) := hXv
  have HL : Hid (X.length = xs.length + 1) := hXl
  clear hXv hXl eN
  go_wp2_with (first
   | (go_at_call 123; go_must (refine T.mono ?_; rintro e w7 ⟨n7, zs, rfl, hzs, hrd, hnm, hvz, b7⟩; have U1 := Z1.below b7; have u1 := U1.1; have uf := U1.2; have q7 := bel' q6 b7))
   | fail)
  have S2 := (U1.set (.slice (some ⟨w1.heap.size, 0, none⟩) n7 N)).1
  exact bodyPost_ret (v := .agg #[.slice (some ⟨w1.heap.size, 0, none⟩) n7 N]) (by simp [results, Tryz.results118, go_sem, S2]) rfl ⟨_, zs, rfl, hrd.box U1, hnm, by rw [hvz, HV.out]; rfl, by rw [hzs, List.length_take, HL.out]; omega, below_put q7 (by omega) _⟩
theorem ShiftLeft_one (v : Value) (xs : List Int) (w : World) (h : Rd w v xs) (n : Nm xs) (hL : xs.length ≤ 274877906944) :
  Calls Tryz.prog 118 #[.agg #[v], .int .i64 1] w fun e w' => ∃ r zs, e = .returned (.agg #[r]) ∧ Rd w' r zs ∧ Nm zs ∧ val zs = val xs * 2 ∧ zs.length ≤ xs.length + 1 ∧ Below w.heap.size w w' :=
 shl_walk 1 0 1 v xs w h n hL rfl rfl (by decide) (by rw [Int.zero_add]; exact IntWalk.i64_in _ (by omega)) ⟨rfl, rfl⟩
end Go.Proofs.YtebilgnmnambnaaGreatDoor.Mo

namespace Go.Proofs.YtebilgnmnambnaaGreatDoor.Mo
open Go.RowKit Dc Tn
theorem wpOp_skip {P : Program} {ops : Array Oper} {Q : Exit → Act → World → Prop} {i : Nat} {o : Oper} {K : Act → World → Prop} {a : Act} {w : World} (ho : ops[i]? = some o) (hw : Region.wanted o (yielded ops a.tmps) = false) (h : K (a.put o.dst undef) w) : wpOp P ops Q i K a w := by
 refine wpOp_step ho (fun K' hK => ?_)
 rw [if_neg (by simp [hw])]
 exact hK _ _ h
theorem Rb.skip {W : World} {n m : Nat} {a b c : Value} (h : Rb W n a b c) (ne : n ≠ m) (v : Value) : Rb (W.setCell ⟨m, 0, none⟩ v) n a b c := by
 have k : Wr m 0 1 W (W.setCell ⟨m, 0, none⟩ v) := (Wr.refl m 0 1 W).setCell 0 (by omega) v
 obtain ⟨t, K⟩ := h.bk
 have K2 := K.wr k ne
 exact ⟨K2.at 0, K2.at 1, K2.at 2, K2.free 0, K2.free 1, K2.free 2, t, K2⟩
def rndA (g : Bool) (X Y k : Int) : Int := if X % Y ≠ 0 ∧ awB g (decide (X / Y % 2 = 1)) (cmp3 (X % Y * 2) Y) k = true then X / Y + 1 else X / Y
set_option maxHeartbeats 1600000 in
set_option maxRecDepth 100000 in
theorem Round_any (g : Bool) (v1 v2 : Value) (xs ys : List Int) (k : Int) (w : World) (h1 : Rd w v1 xs) (h2 : Rd w v2 ys) (n1 : Nm xs) (n2 : Nm ys) (hy : 0 < val ys) (lx : xs.length ≤ 1000000) (ly : ys.length ≤ 1000000) (k1 : 1 ≤ k) (k6 : k ≤ 6) :
  Calls Tryz.prog 60 #[.agg #[.bool g, v1, v2], .int .i64 k] w fun e w' => ∃ r1 r2 zs us, e = .returned (.agg #[.bool (g && !decide (val zs = 0)), r1, r2]) ∧ Rd w' r1 zs ∧ Nm zs ∧ val zs = rndA g (val xs) (val ys) k ∧ Rd w' r2 us ∧ Nm us ∧ val us = 1 ∧ Below w.heap.size w w' := by
 have H1 : Hid (Rd w v1 xs) := h1
 have H2 : Hid (Rd w v2 ys) := h2
 obtain ⟨a1, m1, c1, rfl⟩ := h1.shape
 obtain ⟨a2, m2, c2, rfl⟩ := h2.shape
 clear h1 h2
 have K0 := Rb.new w (.bool g) (.slice a1 m1 c1) (.slice a2 m2 c2) 67
 replace K0 := K0.alloc (.cells #[.bool false, .slice none 0 0, .slice none 0 0] 67)
 have K1 := Rb.new (w.alloc (.cells #[.bool g, .slice a1 m1 c1, .slice a2 m2 c2] 67)) (.bool false) (.slice none 0 0) (.slice none 0 0) 67
 have pr : Below w.heap.size w ((w.alloc (.cells #[.bool g, .slice a1 m1 c1, .slice a2 m2 c2] 67)).alloc (.cells #[.bool false, .slice none 0 0, .slice none 0 0] 67)) := ((Below.refl _ _).alloc (Nat.le_refl _) _).alloc (by simp) _
 simp only [World.size_alloc] at K1
 go_enter Tryz.func60, Tryz.ntmps60
 go_wp2_with (first
  | (go_at_call 115; go_must (refine (DivMod_any _ _ xs ys _ (H1.out.grow pr) (H2.out.grow pr) n1 n2 hy (by omega)).mono ?_; rintro e w1 ⟨r1, r2, zs, rs, rfl, hr1, hn1, hr2, hn2, hv1, hv2, b1⟩; obtain ⟨a3, m3, c3, rfl⟩ := hr1.shape; obtain ⟨a4, m4, c4, rfl⟩ := hr2.shape))
  | fail)
 have J1 := (Bx.new w1 (.slice a3 m3 c3) 65).alloc (.cells #[.slice a4 m4 c4] 65)
 have J2 := Bx.new (w1.alloc (.cells #[.slice a3 m3 c3] 65)) (.slice a4 m4 c4) 65
 simp only [World.size_alloc] at J2
 have ba : Below w1.heap.size w1 ((w1.alloc (.cells #[.slice a3 m3 c3] 65)).alloc (.cells #[.slice a4 m4 c4] 65)) := ((Below.refl _ _).alloc (Nat.le_refl _) _).alloc (by simp) _
 have ls := L.lt_of_cell (K1.grow b1).c0
 replace K0 := (K0.grow b1).grow ba
 replace K1 := (K1.grow b1).grow ba
 have ps := (bel' pr b1).size
 replace pr := bel' (bel' pr b1) ba
 have R3 : Hid (Rd _ (.slice a3 m3 c3) zs) := hr1.grow ba
 have R4 : Hid (Rd _ (.slice a4 m4 c4) rs) := hr2.grow ba
 have V1 : Hid (val zs = val xs / val ys) := hv1
 have V2 : Hid (val rs = val xs % val ys) := hv2
 clear hr1 hr2 hv1 hv2 b1 ba
 generalize (w1.alloc (.cells #[.slice a3 m3 c3] 65)).alloc (.cells #[.slice a4 m4 c4] 65) = W at *
 have x0 := val_nonneg H1.out.1
 have l4 : rs.length ≤ 1000000 := Nat.le_trans (len_mono H2.out.1 R4.out.1 hn2 (by rw [V2.out]; exact Int.le_of_lt (Int.emod_lt_of_pos _ hy))) ly
 have l3 : zs.length ≤ 1000000 := Nat.le_trans (len_mono H1.out.1 R3.out.1 hn1 (by rw [V1.out]; exact Int.ediv_le_self _ x0)) lx
 obtain ⟨q, hq⟩ : ∃ q, decide (val rs = 0) = q := ⟨_, rfl⟩
 obtain ⟨od, hod⟩ : ∃ q, decide (val zs % 2 = 1) = q := ⟨_, rfl⟩
 obtain ⟨cm, hcm⟩ : ∃ q, cmp3 (val rs * 2) (val ys) = q := ⟨_, rfl⟩
 obtain ⟨aw, haw⟩ : ∃ q, awB g od cm k = q := ⟨_, rfl⟩
 have cm3 : cm = -1 ∨ cm = 0 ∨ cm = 1 := by rw [← hcm]; unfold cmp3; split <;> (try split) <;> simp
 have HR : Hid ((if (!q && aw) = true then val zs + 1 else val zs) = rndA g (val xs) (val ys) k) := by
  show _ = _
  unfold rndA
  rw [← V1.out, ← V2.out, hod, hcm, haw, ← hq]
  by_cases hz : val rs = 0 <;> cases aw <;> simp [hz]
 have Z : ∀ x, Below W.heap.size W x → Calls Tryz.prog 48 #[.agg #[.slice a4 m4 c4]] x fun e w' => e = .returned (.bool q) ∧ Below x.heap.size x w' := fun x b => by have := IsZero_any (.slice a4 m4 c4) rs x (R4.out.grow b) hn2; rw [hq] at this; exact this
 have D : ∀ x, Below W.heap.size W x → Calls Tryz.prog 117 #[.agg #[.slice a3 m3 c3]] x fun e w' => e = .returned (.bool od) ∧ Below x.heap.size x w' := fun x b => by have := IsOdd_any (.slice a3 m3 c3) zs x (R3.out.grow b); rw [hod] at this; exact this
 have S : ∀ x, Below W.heap.size W x → Calls Tryz.prog 118 #[.agg #[.slice a4 m4 c4], .int .i64 1] x fun e w' => ∃ a l c ts, e = .returned (.agg #[.slice a l c]) ∧ Rd w' (.slice a l c) ts ∧ Nm ts ∧ val ts = val rs * 2 ∧ ts.length ≤ 1000001 ∧ Below x.heap.size x w' := fun x b => by
  refine (ShiftLeft_one (.slice a4 m4 c4) rs x (R4.out.grow b) hn2 (by omega)).mono ?_
  rintro e w' ⟨r, ts, rfl, hr, hn, hv, hl, bb⟩
  obtain ⟨a, l, c, rfl⟩ := hr.shape
  exact ⟨a, l, c, ts, rfl, hr, hn, hv, by omega, bb⟩
 have C : ∀ x a l c ts, Below W.heap.size W x → Rd x (.slice a l c) ts → Nm ts → val ts = val rs * 2 → ts.length ≤ 1000001 → Calls Tryz.prog 86 #[.agg #[.slice a l c], .agg #[.slice a2 m2 c2]] x fun e w' => e = .returned (.int .i64 cm) ∧ Below x.heap.size x w' := fun x a l c ts b hr hn hv hl => by
  have := Cmp_any (.slice a l c) (.slice a2 m2 c2) ts ys x hr ((H2.out.grow pr).grow b) hn n2 (by omega)
  rw [hv, hcm] at this
  exact this
 have AW : ∀ x, Calls Tryz.prog 116 #[.bool g, .bool od, .int .i64 cm, .int .i64 k] x fun e w' => e = .returned (.bool aw) ∧ w' = x := fun x => by rw [← haw]; exact IsAway_any g od cm k x k1 k6 cm3
 have A1 : ∀ x, Below W.heap.size W x → Calls Tryz.prog 65 #[.int .u64 1] x fun e w' => ∃ a l c ts, e = .returned (.agg #[.slice a l c]) ∧ Rd w' (.slice a l c) ts ∧ Nm ts ∧ val ts = 1 ∧ Below x.heap.size x w' := fun x b => by
  refine (Of_any 1 x (by decide) (by decide)).mono ?_
  rintro e w' ⟨r, ts, rfl, hr, hn, hv, bb⟩
  obtain ⟨a, l, c, rfl⟩ := hr.shape
  exact ⟨a, l, c, ts, rfl, hr, hn, hv, bb⟩
 clear hq hod hcm haw cm3
 go_cut [30] (fun c wc => c = .bool (!q && aw) ∧ Below W.heap.size W wc)
 case first =>
  have e5 := J1.1
  have e6 := J2.1
  have e0 := K0.c0
  have e2 := K0.c2
  cases q
  ·go_region_held3 (fun x => x.cell? ⟨w1.heap.size, 0, none⟩ = some (.slice a3 m3 c3) ∧ x.cell? ⟨w1.heap.size + 1, 0, none⟩ = some (.slice a4 m4 c4) ∧ x.cell? ⟨w.heap.size, 0, none⟩ = some (.bool g) ∧ x.cell? ⟨w.heap.size, 2, none⟩ = some (.slice a2 m2 c2)) (go_keep) (first
    | (go_at_call 48; refine (Z _ (Below.refl _ _).drew).mono ?_; rintro e x1 ⟨rfl, b1⟩; have b1 := undrew b1; have p5 := (J1.below b1).1; have p6 := (J2.below b1).1; have p0 := (K0.grow b1).c0; have p2 := (K0.grow b1).c2)
    | (go_at_call 117; refine (D _ b1).mono ?_; rintro e x2 ⟨rfl, b2⟩; have b2 := bel' b1 b2; have p5 := (J1.below b2).1; have p6 := (J2.below b2).1; have p0 := (K0.grow b2).c0; have p2 := (K0.grow b2).c2)
    | (go_at_call 118; refine (S _ b2).mono ?_; rintro e x3 ⟨sa, sl, sc, ts, rfl, hs, hsn, hsv, hsl, b3⟩; have b3 := bel' b2 b3; have p5 := (J1.below b3).1; have p6 := (J2.below b3).1; have p0 := (K0.grow b3).c0; have p2 := (K0.grow b3).c2)
    | (go_at_call 86; refine (C _ _ _ _ ts b3 hs hsn hsv hsl).mono ?_; rintro e x4 ⟨rfl, b4⟩; have b4 := bel' b3 b4; have p5 := (J1.below b4).1; have p6 := (J2.below b4).1; have p0 := (K0.grow b4).c0; have p2 := (K0.grow b4).c2)
    | (go_at_call 116; refine (AW _).mono ?_; rintro e x5 ⟨rfl, rfl⟩)
    | fail)
   all_goals
    go_wp2_with fail
    go_meet
    case rel => exact ⟨rfl, b4⟩
  ·rename_i hm hJ
   refine wp_region_held (S := fun _ => True) (by kernel_rfl) (any_inv (fun listed a x => ∃ (y0 y1 y2 y3 y4 y5 y6 y7 y8 y9 y10 y11 y12 y13 y14 y15 : Bool) (t15 t16 t17 t18 t30 : Value), a = ⟨#[.agg #[.bool g, .slice a1 m1 c1, .slice a2 m2 c2], .int .i64 k, .pointer (some ⟨w.heap.size, 0, none⟩), undef, .pointer (some ⟨w.heap.size + 1, 0, none⟩), .pointer (some ⟨w1.heap.size, 0, none⟩), .pointer (some ⟨w1.heap.size + 1, 0, none⟩), .tuple #[.agg #[.slice a3 m3 c3], .agg #[.slice a4 m4 c4]], .pointer (some ⟨w.heap.size, 1, none⟩), .agg #[.slice a1 m1 c1], .pointer (some ⟨w.heap.size, 2, none⟩), .agg #[.slice a2 m2 c2], .tuple #[.agg #[.slice a3 m3 c3], .agg #[.slice a4 m4 c4]], .agg #[.slice a3 m3 c3], .agg #[.slice a4 m4 c4], t15, t16, t17, t18, undef, undef, undef, undef, undef, undef, undef, undef, undef, undef, undef, t30, undef, undef, undef, undef, undef, undef, undef], []⟩ ∧ listed = #[y0, y1, y2, y3, y4, y5, y6, y7, y8, y9, y10, y11, y12, y13, y14, y15] ∧ Below W.heap.size W x ∧ (y0 = true → t15 = .agg #[.slice a4 m4 c4]) ∧ (y1 = true → t16 = .bool true) ∧ (y2 = true → t17 = .bool false) ∧ (y3 = true → t18 = .bool false) ∧ (y15 = true → t30 = .bool false)) ?_ ?_ _ _ _ _ (by decide) ?_)
   ·rintro listed a x i ⟨y0, y1, y2, y3, y4, y5, y6, y7, y8, y9, y10, y11, y12, y13, y14, y15, t15, t16, t17, t18, t30, rfl, rfl, bel, h0, h1, h2, h3, h15⟩ hi
    have hr : i < 16 := List.mem_range.1 (List.mem_filter.1 hi).1
    have hc := (List.mem_filter.1 hi).2
    rcases (show i = 0 ∨ i = 1 ∨ i = 2 ∨ i = 3 ∨ i = 4 ∨ i = 5 ∨ i = 6 ∨ i = 7 ∨ i = 8 ∨ i = 9 ∨ i = 10 ∨ i = 11 ∨ i = 12 ∨ i = 13 ∨ i = 14 ∨ i = 15 by omega) with rfl | rfl | rfl | rfl | rfl | rfl | rfl | rfl | rfl | rfl | rfl | rfl | rfl | rfl | rfl | rfl
    ·-- operation 0
     clear hc hi
     have e6 := (J2.below bel).1
     refine wpOp_step rfl (fun K hK0 => ?_)
     have hK : Hid _ := hK0
     clear hK0
     rw [if_pos (by rfl)]
     go_wp2_with fail
     exact hK.out _ _ ⟨true,_,_,_,_,_,_,_,_,_,_,_,_,_,_,_,_,_,_,_,_,rfl,rfl,bel,(fun _ => rfl),h1,h2,h3,h15⟩
    ·-- operation 1
     have e0 : y0 = true := by
      revert hc
      cases y0 <;> simp [Region.binds]
     have r0 := h0 e0
     subst r0
     clear hc hi
     refine wpOp_step rfl (fun K hK0 => ?_)
     have hK : Hid _ := hK0
     clear hK0
     rw [if_pos (by rfl)]
     go_wp2_with (first | (go_at_call 48; go_must (refine (Z _ bel).mono ?_; rintro e x2 ⟨rfl, bb⟩)) | fail)
     exact hK.out _ _ ⟨_,true,_,_,_,_,_,_,_,_,_,_,_,_,_,_,_,_,_,_,_,rfl,rfl,(bel' bel bb),(fun _ => rfl),(fun _ => rfl),h2,h3,h15⟩
    ·-- operation 2
     have e1 : y1 = true := by
      revert hc
      cases y1 <;> simp [Region.binds]
     have r1 := h1 e1
     subst r1
     clear hc hi
     refine wpOp_step rfl (fun K hK0 => ?_)
     have hK : Hid _ := hK0
     clear hK0
     rw [if_pos (by rfl)]
     go_wp2_with fail
     exact hK.out _ _ ⟨_,_,true,_,_,_,_,_,_,_,_,_,_,_,_,_,_,_,_,_,_,rfl,rfl,bel,h0,(fun _ => rfl),(fun _ => rfl),h3,h15⟩
    ·-- operation 3
     have e2 : y2 = true := by
      revert hc
      cases y2 <;> simp [Region.binds]
     have r2 := h2 e2
     subst r2
     clear hc hi
     refine wpOp_step rfl (fun K hK0 => ?_)
     have hK : Hid _ := hK0
     clear hK0
     rw [if_pos (by rfl)]
     go_wp2_with fail
     exact hK.out _ _ ⟨_,_,_,true,_,_,_,_,_,_,_,_,_,_,_,_,_,_,_,_,_,rfl,rfl,bel,h0,h1,(fun _ => rfl),(fun _ => rfl),h15⟩
    ·-- operation 4
     have e3 : y3 = true := by
      revert hc
      cases y3 <;> simp [Region.binds]
     have r3 := h3 e3
     subst r3
     clear hc hi
     exact wpOp_skip rfl rfl ⟨y0, y1, y2, y3, true, y5, y6, y7, y8, y9, y10, y11, y12, y13, y14, y15, t15, t16, t17, _, t30, rfl, rfl, bel, h0, h1, h2, (fun _ => rfl), h15⟩
    ·-- operation 5
     have e3 : y3 = true := by
      revert hc
      cases y3 <;> simp [Region.binds]
     have r3 := h3 e3
     subst r3
     clear hc hi
     exact wpOp_skip rfl rfl ⟨y0, y1, y2, y3, y4, true, y6, y7, y8, y9, y10, y11, y12, y13, y14, y15, t15, t16, t17, _, t30, rfl, rfl, bel, h0, h1, h2, (fun _ => rfl), h15⟩
    ·-- operation 6
     have e3 : y3 = true := by
      revert hc
      cases y3 <;> simp [Region.binds]
     have r3 := h3 e3
     subst r3
     clear hc hi
     exact wpOp_skip rfl rfl ⟨y0, y1, y2, y3, y4, y5, true, y7, y8, y9, y10, y11, y12, y13, y14, y15, t15, t16, t17, _, t30, rfl, rfl, bel, h0, h1, h2, (fun _ => rfl), h15⟩
    ·-- operation 7
     have e3 : y3 = true := by
      revert hc
      cases y3 <;> simp [Region.binds]
     have r3 := h3 e3
     subst r3
     clear hc hi
     exact wpOp_skip rfl rfl ⟨y0, y1, y2, y3, y4, y5, y6, true, y8, y9, y10, y11, y12, y13, y14, y15, t15, t16, t17, _, t30, rfl, rfl, bel, h0, h1, h2, (fun _ => rfl), h15⟩
    ·-- operation 8
     have e3 : y3 = true := by
      revert hc
      cases y3 <;> simp [Region.binds]
     have r3 := h3 e3
     subst r3
     clear hc hi
     exact wpOp_skip rfl rfl ⟨y0, y1, y2, y3, y4, y5, y6, y7, true, y9, y10, y11, y12, y13, y14, y15, t15, t16, t17, _, t30, rfl, rfl, bel, h0, h1, h2, (fun _ => rfl), h15⟩
    ·-- operation 9
     have e3 : y3 = true := by
      revert hc
      cases y3 <;> simp [Region.binds]
     have r3 := h3 e3
     subst r3
     clear hc hi
     exact wpOp_skip rfl rfl ⟨y0, y1, y2, y3, y4, y5, y6, y7, y8, true, y10, y11, y12, y13, y14, y15, t15, t16, t17, _, t30, rfl, rfl, bel, h0, h1, h2, (fun _ => rfl), h15⟩
    ·-- operation 10
     have e3 : y3 = true := by
      revert hc
      cases y3 <;> simp [Region.binds]
     have r3 := h3 e3
     subst r3
     clear hc hi
     exact wpOp_skip rfl rfl ⟨y0, y1, y2, y3, y4, y5, y6, y7, y8, y9, true, y11, y12, y13, y14, y15, t15, t16, t17, _, t30, rfl, rfl, bel, h0, h1, h2, (fun _ => rfl), h15⟩
    ·-- operation 11
     have e3 : y3 = true := by
      revert hc
      cases y3 <;> simp [Region.binds]
     have r3 := h3 e3
     subst r3
     clear hc hi
     exact wpOp_skip rfl rfl ⟨y0, y1, y2, y3, y4, y5, y6, y7, y8, y9, y10, true, y12, y13, y14, y15, t15, t16, t17, _, t30, rfl, rfl, bel, h0, h1, h2, (fun _ => rfl), h15⟩
    ·-- operation 12
     have e3 : y3 = true := by
      revert hc
      cases y3 <;> simp [Region.binds]
     have r3 := h3 e3
     subst r3
     clear hc hi
     exact wpOp_skip rfl rfl ⟨y0, y1, y2, y3, y4, y5, y6, y7, y8, y9, y10, y11, true, y13, y14, y15, t15, t16, t17, _, t30, rfl, rfl, bel, h0, h1, h2, (fun _ => rfl), h15⟩
    ·-- operation 13
     have e3 : y3 = true := by
      revert hc
      cases y3 <;> simp [Region.binds]
     have r3 := h3 e3
     subst r3
     clear hc hi
     exact wpOp_skip rfl rfl ⟨y0, y1, y2, y3, y4, y5, y6, y7, y8, y9, y10, y11, y12, true, y14, y15, t15, t16, t17, _, t30, rfl, rfl, bel, h0, h1, h2, (fun _ => rfl), h15⟩
    ·-- operation 14
     have e3 : y3 = true := by
      revert hc
      cases y3 <;> simp [Region.binds]
     have r3 := h3 e3
     subst r3
     clear hc hi
     exact wpOp_skip rfl rfl ⟨y0, y1, y2, y3, y4, y5, y6, y7, y8, y9, y10, y11, y12, y13, true, y15, t15, t16, t17, _, t30, rfl, rfl, bel, h0, h1, h2, (fun _ => rfl), h15⟩
    ·-- operation 15
     have e3 : y3 = true := by
      revert hc
      cases y3 <;> simp [Region.binds]
     have r3 := h3 e3
     subst r3
     clear hc hi
     refine wpOp_step rfl (fun K hK0 => ?_)
     have hK : Hid _ := hK0
     clear hK0
     rw [if_pos (by rfl)]
     go_wp2_with fail
     exact hK.out _ _ ⟨_,_,_,_,_,_,_,_,_,_,_,_,_,_,_,true,_,_,_,_,_,rfl,rfl,bel,h0,h1,h2,(fun _ => rfl),(fun _ => rfl)⟩
   ·rintro listed a x ⟨y0, y1, y2, y3, y4, y5, y6, y7, y8, y9, y10, y11, y12, y13, y14, y15, t15, t16, t17, t18, t30, rfl, rfl, bel, h0, h1, h2, h3, h15⟩ hn
    have al := all_listed (by decide +kernel) hn
    have z := al 15 (by decide)
    have z : y15 = true := z
    have r := h15 z
    subst r
    refine hm _ _ ?_
    go_meet
    case rel => exact ⟨rfl, bel⟩
   ·exact ⟨false, false, false, false, false, false, false, false, false, false, false, false, false, false, false, false, undef, undef, undef, undef, undef, rfl, rfl, (Below.refl _ _).drew, (by intro q; cases q), (by intro q; cases q), (by intro q; cases q), (by intro q; cases q), (by intro q; cases q)⟩
 case rest =>
  obtain ⟨rfl, b⟩ := hcut
  generalize (!q && aw) = t at HR
  replace J1 := J1.below b
  replace K0 := K0.grow b
  replace K1 := K1.grow b
  have e5 := J1.1
  have f5 := J1.2
  have e0 := K0.c0
  cases t
  ·have OW : ∀ x, Below W.heap.size W x → Calls Tryz.prog 102 #[.bool g, .agg #[.slice a3 m3 c3]] x fun e w' => ∃ a l c us, e = .returned (.agg #[.bool (g && !decide (val zs = 0)), .slice a3 m3 c3, .slice a l c]) ∧ Rd w' (.slice a3 m3 c3) zs ∧ Rd w' (.slice a l c) us ∧ Nm us ∧ val us = 1 ∧ Below x.heap.size x w' := fun x b => by
    refine (OfWhole_any g (.slice a3 m3 c3) zs x (R3.out.grow b) hn1).mono ?_
    rintro e w' ⟨r, us, rfl, o1, o2, o3, o4, o5⟩
    obtain ⟨a, l, c, rfl⟩ := o2.shape
    exact ⟨a, l, c, us, rfl, o1, o2, o3, o4, o5⟩
   obtain ⟨gz, hgz⟩ : ∃ z, (g && !decide (val zs = 0)) = z := ⟨_, rfl⟩
   rw [hgz] at OW
   have HG : Hid ((g && !decide (val zs = 0)) = gz) := hgz
   clear hgz
   go_wp2_with (first
    | (go_at_call 102; go_must (refine (OW _ b).mono ?_; rintro e x6 ⟨a6, m6, c6, us, rfl, o1, o2, o3, o4, o5⟩; have R := K1.grow o5; have r0 := R.c0; have r1 := R.c1; have r2 := R.c2; have s0 := R.f0; have s1 := R.f1; have s2 := R.f2; have O4 : Hid (val us = 1) := o4; clear o4))
    | fail)
   obtain ⟨F0, F1, F2⟩ := R.put (.bool gz) (.slice a3 m3 c3) (.slice a6 m6 c6)
   exact bodyPost_ret (v := .agg #[.bool gz, .slice a3 m3 c3, .slice a6 m6 c6]) (by simp [results, Tryz.results60, go_sem, F0, F1, F2]) rfl ⟨_, _, zs, us, by rw [HG.out], Rd.putF o1 R, hn1, by simpa using HR.out, Rd.putF o2 R, o3, O4.out, bset3 (bel' (bel' pr b) o5) (by omega)⟩
  ·have ADD : ∀ x a l c ts, Below W.heap.size W x → Rd x (.slice a l c) ts → Nm ts → val ts = 1 → Calls Tryz.prog 119 #[.agg #[.slice a3 m3 c3], .agg #[.slice a l c]] x fun e w' => ∃ a l c us, e = .returned (.agg #[.slice a l c]) ∧ Rd w' (.slice a l c) us ∧ Nm us ∧ val us = val zs + 1 ∧ Below x.heap.size x w' := fun x a l c ts bx hr hn hv => by
    have lt : ts.length ≤ 1 := len_mono (A := [1]) (Wd.cons (by decide) (by decide) Wd.nil) hr.1 hn (by rw [hv]; decide)
    refine (Add_any (.slice a3 m3 c3) (.slice a l c) zs ts x (R3.out.grow bx) hr (by omega) (by omega)).mono ?_
    rintro e w' ⟨r, us, rfl, o1, o2, o3, o4⟩
    obtain ⟨a, l, c, rfl⟩ := o1.shape
    exact ⟨a, l, c, us, rfl, o1, o2, by rw [o3, hv], o4⟩
   clear Z D S C AW
   go_wp2_with fail
   go_region_with (first
    | (go_at_call 65; refine (A1 _ b.drew).mono ?_; rintro e x1 ⟨a7, l7, c7, ts, rfl, t1, t2, t3, b1⟩; have b1 := undrew b1; have p5 := (J1.below b1).1)
    | (go_at_call 119; refine (ADD _ _ _ _ ts (bel' b b1) t1 t2 t3).mono ?_; rintro e x2 ⟨a8, l8, c8, us, rfl, o1, o2, o3, b2⟩; have b2 := bel' b1 b2; have J2 := J1.below b2; have p5 := J2.1; have p6 := J2.2)
    | fail)
   all_goals
    have JX := (J2.set (.slice a8 l8 c8)).1
    have K0X := (K0.grow b2).skip (m := w1.heap.size) (by omega) (.slice a8 l8 c8)
    have K1X := (K1.grow b2).skip (m := w1.heap.size) (by omega) (.slice a8 l8 c8)
    have RX : Rd (x2.setCell ⟨w1.heap.size, 0, none⟩ (.slice a8 l8 c8)) (.slice a8 l8 c8) us := o1.box J2
    have pX := below_put (bel' (bel' pr b) b2) ps (.slice a8 l8 c8)
    have O3 : Hid (val us = val zs + 1) := o3
    have xz := K0X.c0
    clear e5 f5 e0 p5 p6 J1 J2 K0 K1 b1 b2 t1 t3 o1 o3
    generalize x2.setCell ⟨w1.heap.size, 0, none⟩ (.slice a8 l8 c8) = X at *
    have OW : Calls Tryz.prog 102 #[.bool g, .agg #[.slice a8 l8 c8]] X fun e w' => ∃ a l c vs, e = .returned (.agg #[.bool (g && !decide (val us = 0)), .slice a8 l8 c8, .slice a l c]) ∧ Rd w' (.slice a8 l8 c8) us ∧ Rd w' (.slice a l c) vs ∧ Nm vs ∧ val vs = 1 ∧ Below X.heap.size X w' := by
     refine (OfWhole_any g (.slice a8 l8 c8) us X RX o2).mono ?_
     rintro e w' ⟨r, vs, rfl, o1, o2, o3, o4, o5⟩
     obtain ⟨a, l, c, rfl⟩ := o2.shape
     exact ⟨a, l, c, vs, rfl, o1, o2, o3, o4, o5⟩
    obtain ⟨gz, hgz⟩ : ∃ z, (g && !decide (val us = 0)) = z := ⟨_, rfl⟩
    rw [hgz] at OW
    have HG : Hid ((g && !decide (val us = 0)) = gz) := hgz
    clear hgz
    go_wp2_with (first
     | (go_at_call 102; go_must (refine OW.mono ?_; rintro e x6 ⟨a6, m6, c6, vs, rfl, o1, o2', o3, o4, o5⟩; have R := K1X.grow o5; have r0 := R.c0; have r1 := R.c1; have r2 := R.c2; have s0 := R.f0; have s1 := R.f1; have s2 := R.f2; have O4 : Hid (val vs = 1) := o4; clear o4))
     | fail)
    obtain ⟨F0, F1, F2⟩ := R.put (.bool gz) (.slice a8 l8 c8) (.slice a6 m6 c6)
    exact bodyPost_ret (v := .agg #[.bool gz, .slice a8 l8 c8, .slice a6 m6 c6]) (by simp [results, Tryz.results60, go_sem, F0, F1, F2]) rfl ⟨_, _, us, vs, by rw [HG.out], Rd.putF o1 R, o2, by rw [O3.out]; simpa using HR.out, Rd.putF o2' R, o3, O4.out, bset3 (bel' pX o5) (by omega)⟩
end Go.Proofs.YtebilgnmnambnaaGreatDoor.Mo

namespace Go.Proofs.YtebilgnmnambnaaGreatDoor.Mo
open Go.RowKit Dc Tn
theorem word_val {xs : List Int} (h : Wd xs) (hv : val xs < 18446744073709551616) : nth xs 0 = val xs := by
 cases xs with
 | nil => simp [nth, val]
 | cons x xs =>
  have h1 : Wd xs := fun y hy => h y (List.mem_cons_of_mem _ hy)
  have := val_nonneg h1
  have hx := (nth_bd h 0).1
  simp only [val, nth] at *
  simp at *
  omega
end Go.Proofs.YtebilgnmnambnaaGreatDoor.Mo
