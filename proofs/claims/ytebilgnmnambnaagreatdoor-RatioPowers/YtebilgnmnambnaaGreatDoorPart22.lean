import Derived.Test.YtebilgnmnambnaaGreatDoorPart21
import Derived.Test.YtebilgnmnambnaaGreatDoorPart18
import Derived.Test.YtebilgnmnambnaaGreatDoorPart20

namespace Go.Proofs.YtebilgnmnambnaaGreatDoor.Mo
open Go.RowKit Dc Tn

theorem undrew {W w1 : World} (b : Below W.drew.heap.size W.drew w1) : Below W.heap.size W w1 := (show Below W.heap.size W W.drew from (Below.refl _ _).drew).trans b
set_option maxHeartbeats 1600000 in
set_option maxRecDepth 100000 in
theorem OfWhole_any (g : Bool) (v : Value) (xs : List Int) (w : World) (h : Rd w v xs) (n : Nm xs) :
    Calls Tryz.prog 102 #[.bool g, .agg #[v]] w fun e w' => ∃ r zs, e = .returned (.agg #[.bool (g && !decide (val xs = 0)), v, r]) ∧ Rd w' v xs ∧ Rd w' r zs ∧ Nm zs ∧ val zs = 1 ∧ Below w.heap.size w w' := by
  have H : Hid (Rd w v xs) := h
  obtain ⟨a1, m1, c1, rfl⟩ := h.shape
  clear h
  have O := fun W => Of_any 1 W (by decide) (by decide)
  have K0 : Bx ((w.alloc (.cells #[.slice a1 m1 c1] 65)).alloc (.cells #[.bool false, .slice none 0 0, .slice none 0 0] 67)) w.heap.size (.slice a1 m1 c1) := (Bx.new w (.slice a1 m1 c1) 65).alloc _
  have K1 := Rb.new (w.alloc (.cells #[.slice a1 m1 c1] 65)) (.bool false) (.slice none 0 0) (.slice none 0 0) 67
  have pr : Below w.heap.size w ((w.alloc (.cells #[.slice a1 m1 c1] 65)).alloc (.cells #[.bool false, .slice none 0 0, .slice none 0 0] 67)) := ((Below.refl _ _).alloc (Nat.le_refl _) _).alloc (by simp) _
  simp only [World.size_alloc] at K1
  obtain ⟨q, hq⟩ : ∃ q, decide (val xs = 0) = q := ⟨_, rfl⟩
  have hs := pr.size
  cases g
  · go_enter Tryz.func102, Tryz.ntmps102
    go_wp2_with fail
    generalize (w.alloc (.cells #[.slice a1 m1 c1] 65)).alloc (.cells #[.bool false, .slice none 0 0, .slice none 0 0] 67) = W at *
    have e0 := K0.1
    go_region_with (first
      | (go_at_call 65; refine (O _).mono ?_; rintro e w2 ⟨r, zs, rfl, hr, hn, hv, b2⟩; obtain ⟨a2, m2, c2, rfl⟩ := hr.shape; have bb := undrew b2; have f0 := (K0.below bb).1; have R := K1.grow bb; have r0 := R.c0; have r1 := R.c1; have r2 := R.c2; have s0 := R.f0; have s1 := R.f1; have s2 := R.f2)
      | fail)
    all_goals
      obtain ⟨F0, F1, F2⟩ := R.put (.bool false) (.slice a1 m1 c1) (.slice a2 m2 c2)
      go_wp2
      exact bodyPost_ret (v := .agg #[.bool false, .slice a1 m1 c1, .slice a2 m2 c2]) (by simp [results, Tryz.results102, go_sem, F0, F1, F2]) rfl ⟨_, zs, rfl, Rd.putF ((H.out.grow pr).grow bb) R, Rd.putF hr R, hn, hv, bset3 (bel' pr bb) (by omega)⟩
  · have Z : ∀ x, Below w.heap.size w x → Calls Tryz.prog 48 #[.agg #[.slice a1 m1 c1]] x fun e w' => e = .returned (.bool q) ∧ Below x.heap.size x w' := fun x b => by have := IsZero_any (.slice a1 m1 c1) xs x (H.out.grow b) n; rw [hq] at this; exact this
    rw [hq]
    go_enter Tryz.func102, Tryz.ntmps102
    go_wp2_with fail
    generalize (w.alloc (.cells #[.slice a1 m1 c1] 65)).alloc (.cells #[.bool false, .slice none 0 0, .slice none 0 0] 67) = W at *
    have e0 := K0.1
    go_region_held3 (fun x => x.cell? ⟨w.heap.size, 0, none⟩ = some (.slice a1 m1 c1)) (go_keep) (first
      | (go_at_call 48; refine (Z _ pr.drew).mono ?_; rintro e w1 ⟨rfl, b1⟩; have b1 := undrew b1; have g0 := (K0.below b1).1)
      | (go_at_call 65; refine (O _).mono ?_; rintro e w2 ⟨r, zs, rfl, hr, hn, hv, b2⟩; obtain ⟨a2, m2, c2, rfl⟩ := hr.shape; have bb := bel' b1 b2; have f0 := (K0.below bb).1; have R := K1.grow bb; have r0 := R.c0; have r1 := R.c1; have r2 := R.c2; have s0 := R.f0; have s1 := R.f1; have s2 := R.f2)
      | fail)
    obtain ⟨F0, F1, F2⟩ := R.put (.bool (!q)) (.slice a1 m1 c1) (.slice a2 m2 c2)
    go_wp2
    exact bodyPost_ret (v := .agg #[.bool (!q), .slice a1 m1 c1, .slice a2 m2 c2]) (by simp [results, Tryz.results102, go_sem, F0, F1, F2]) rfl ⟨_, zs, rfl, Rd.putF ((H.out.grow pr).grow bb) R, Rd.putF hr R, hn, hv, bset3 (bel' pr bb) (by omega)⟩
end Go.Proofs.YtebilgnmnambnaaGreatDoor.Mo

namespace Go.Proofs.YtebilgnmnambnaaGreatDoor.Mo
open Go.RowKit Dc Tn

/-- What is wrong with an exact number; 0: nothing. -/
def goodE (n d : ByteArray) : Int := if shB n d = false then 5 else if 4096 < (rest n).size ∨ 4096 < d.size then 3 else if Int.gcd (Dc.num (rest n).data.toList : Int) (Dc.num d.data.toList : Int) ≠ 1 then 5 else 0
theorem natB_dg {s : ByteArray} (h : natB s = true) : ∀ c ∈ s.data.toList, Dc.Dg c := by
  unfold natB at h
  rw [Bool.and_eq_true, Bool.and_eq_true, List.all_eq_true] at h
  intro c hc
  have := h.1.1 c hc
  simp only [decide_eq_true_iff] at this
  exact this
theorem Read_any (n d : ByteArray) (w : World) (hn : n.size ≤ 9223372036854775807) (hd : d.size ≤ 9223372036854775807) :
    Calls Tryz.prog 47 #[.agg #[.string n, .string d]] w fun e w' => Below w.heap.size w w' ∧ ((goodE n d ≠ 0 ∧ e = .returned (noR (goodE n d))) ∨ (goodE n d = 0 ∧ ∃ v1 v2 xs ys, e = .returned (.tuple #[.agg #[.bool (neg n), v1, v2], .int .i64 0]) ∧ Rd w' v1 xs ∧ Nm xs ∧ val xs = (Dc.num (rest n).data.toList : Int) ∧ xs.length ≤ 400 ∧ Rd w' v2 ys ∧ Nm ys ∧ val ys = (Dc.num d.data.toList : Int) ∧ ys.length ≤ 400)) := by
  unfold goodE
  rcases h : shB n d with _ | _
  · refine (Read_shape n d w hn hd h).mono ?_
    rintro e w' ⟨rfl, b⟩
    exact ⟨b, Or.inl ⟨by simp, by simp⟩⟩
  · by_cases hl : 4096 < (rest n).size ∨ 4096 < d.size
    · refine (Read_long n d w hn hd h hl).mono ?_
      rintro e w' ⟨rfl, b⟩
      exact ⟨b, Or.inl ⟨by simp [hl], by simp [hl]⟩⟩
    · have h' := h
      unfold shB is0 is1 at h'
      rw [Bool.and_eq_true, Bool.and_eq_true, Bool.and_eq_true, Bool.not_eq_true', Bool.not_eq_true'] at h'
      obtain ⟨⟨⟨a1, a2⟩, a3⟩, a4⟩ := h'
      have dz : ∀ c ∈ (rest n).data.toList, Dc.Dg c := natB_dg (by unfold whB at a1; rw [Bool.and_eq_true] at a1; exact a1.1)
      refine (Read_num n d (neg n) (rest n) _ _ w (by omega) (by omega) dz (natB_dg a2) (fun W => by have := IsWhole_any n W hn; rw [a1] at this; exact this) (fun W => by have := IsNatural_any d W hd; rw [a2] at this; exact this) (fun W => CutSign_any n W hn) a3 rfl rfl a4).mono ?_
      rintro e w' ⟨c, b⟩
      refine ⟨b, ?_⟩
      rw [if_neg (by simp), if_neg hl]
      generalize Int.gcd (Dc.num (rest n).data.toList : Int) (Dc.num d.data.toList : Int) = q at c ⊢
      rcases c with ⟨c1, rfl⟩ | ⟨c1, c2⟩
      · exact Or.inl ⟨by simp [c1], by simp [c1]⟩
      · exact Or.inr ⟨by simp [c1], c2⟩
set_option maxRecDepth 100000 in
theorem Inverse_any (g : Bool) (a1 a2 : Option Addr) (m1 c1 m2 c2 : Nat) (w : World) :
    Calls Tryz.prog 43 #[.agg #[.bool g, .slice a1 m1 c1, .slice a2 m2 c2]] w fun e w' => e = .returned (.agg #[.bool g, .slice a2 m2 c2, .slice a1 m1 c1]) ∧ Below w.heap.size w w' := by
  go_enter Tryz.func43, Tryz.ntmps43
  go_wp2
  refine bodyPost_ret (v := .agg #[.bool g, .slice a2 m2 c2, .slice a1 m1 c1]) (by simp [results, Tryz.results43, go_sem]) rfl ⟨rfl, ?_⟩
  exact ((Below.refl _ _).alloc (Nat.le_refl _) _).alloc (by simp) _
end Go.Proofs.YtebilgnmnambnaaGreatDoor.Mo

namespace Go.Proofs.YtebilgnmnambnaaGreatDoor.Mo
open Go.RowKit Dc Tn

set_option maxHeartbeats 800000 in
set_option maxRecDepth 100000 in
theorem OfInt_any (k : Int) (w : World) (h0 : -9223372036854775807 ≤ k) (h1 : k ≤ 9223372036854775807) :
    Calls Tryz.prog 41 #[.int .i64 k] w fun e w' => ∃ v1 v2 xs ys, e = .returned (.agg #[.bool (decide (k < 0)), v1, v2]) ∧ Rd w' v1 xs ∧ Nm xs ∧ val xs = (k.natAbs : Int) ∧ Rd w' v2 ys ∧ Nm ys ∧ val ys = 1 ∧ Below w.heap.size w w' := by
  have O := fun W => Of_any (k.natAbs : Int) W (by omega) (by omega)
  by_cases hk : k < 0
  · have e1 : IntKind.u64.wrap k = k + 18446744073709551616 := by rw [wrap_u64]; omega
    have e2 : IntKind.u64.wrap (-(k + 18446744073709551616)) = (k.natAbs : Int) := by rw [wrap_u64]; omega
    have HK : Hid (decide (k < 0) = true ∧ k.natAbs ≠ 0) := ⟨decide_eq_true hk, by omega⟩
    generalize k.natAbs = q at *
    have K1 := Rb.new w (.bool false) (.slice none 0 0) (.slice none 0 0) 67
    have pr : Below w.heap.size w (w.alloc (.cells #[.bool false, .slice none 0 0, .slice none 0 0] 67)) := (Below.refl _ _).alloc (Nat.le_refl _) _
    go_enter Tryz.func41, Tryz.ntmps41
    go_wp2_with (first
      | (go_at_call 65; go_must (refine (O _).mono ?_; rintro e w1 ⟨r, xs, rfl, hr, hn, hv, b1⟩; obtain ⟨a1, m1, c1, rfl⟩ := hr.shape; have HVX : Hid (val xs = (q : Int)) := hv; clear hv))
      | (go_at_call 102; go_must (refine (OfWhole_any true _ xs _ hr hn).mono ?_; rw [show (true && !decide (val xs = 0)) = true from (by rw [HVX.out]; simp; try exact HK.out.2)]; rintro e w2 ⟨r2, ys, rfl, hr1, hr2, hn2, hv2, b2⟩; obtain ⟨a2, m2, c2, rfl⟩ := hr2.shape; have HV2 : Hid (val ys = 1) := hv2; clear hv2; have bb := bel' b1 b2; have R := K1.grow bb; replace pr := bel' pr bb; have r0 := R.c0; have r1 := R.c1; have r2 := R.c2; have s0 := R.f0; have s1 := R.f1; have s2 := R.f2))
      | fail)
    obtain ⟨F0, F1, F2⟩ := R.put (.bool true) (.slice a1 m1 c1) (.slice a2 m2 c2)
    exact bodyPost_ret (v := .agg #[.bool true, .slice a1 m1 c1, .slice a2 m2 c2]) (by simp [results, Tryz.results41, go_sem, F0, F1, F2]) rfl ⟨_, _, xs, ys, by rw [HK.out.1], Rd.putF hr1 R, hn, HVX.out, Rd.putF hr2 R, hn2, HV2.out, bset3 pr (by omega)⟩
  · have e1 : IntKind.u64.wrap k = (k.natAbs : Int) := by rw [wrap_u64]; omega
    have HK : Hid (decide (k < 0) = false ∧ True) := ⟨decide_eq_false hk, trivial⟩
    generalize k.natAbs = q at *
    have K1 := Rb.new w (.bool false) (.slice none 0 0) (.slice none 0 0) 67
    have pr : Below w.heap.size w (w.alloc (.cells #[.bool false, .slice none 0 0, .slice none 0 0] 67)) := (Below.refl _ _).alloc (Nat.le_refl _) _
    go_enter Tryz.func41, Tryz.ntmps41
    go_wp2_with (first
      | (go_at_call 65; go_must (refine (O _).mono ?_; rintro e w1 ⟨r, xs, rfl, hr, hn, hv, b1⟩; obtain ⟨a1, m1, c1, rfl⟩ := hr.shape; have HVX : Hid (val xs = (q : Int)) := hv; clear hv))
      | (go_at_call 102; go_must (refine (OfWhole_any false _ xs _ hr hn).mono ?_; rw [show (false && !decide (val xs = 0)) = false from (by rw [HVX.out]; simp; try exact HK.out.2)]; rintro e w2 ⟨r2, ys, rfl, hr1, hr2, hn2, hv2, b2⟩; obtain ⟨a2, m2, c2, rfl⟩ := hr2.shape; have HV2 : Hid (val ys = 1) := hv2; clear hv2; have bb := bel' b1 b2; have R := K1.grow bb; replace pr := bel' pr bb; have r0 := R.c0; have r1 := R.c1; have r2 := R.c2; have s0 := R.f0; have s1 := R.f1; have s2 := R.f2))
      | fail)
    obtain ⟨F0, F1, F2⟩ := R.put (.bool false) (.slice a1 m1 c1) (.slice a2 m2 c2)
    exact bodyPost_ret (v := .agg #[.bool false, .slice a1 m1 c1, .slice a2 m2 c2]) (by simp [results, Tryz.results41, go_sem, F0, F1, F2]) rfl ⟨_, _, xs, ys, by rw [HK.out.1], Rd.putF hr1 R, hn, HVX.out, Rd.putF hr2 R, hn2, HV2.out, bset3 pr (by omega)⟩
end Go.Proofs.YtebilgnmnambnaaGreatDoor.Mo

namespace Go.Proofs.YtebilgnmnambnaaGreatDoor.Mo
open Go.RowKit Dc Tn

end Go.Proofs.YtebilgnmnambnaaGreatDoor.Mo

namespace Go.Proofs.YtebilgnmnambnaaGreatDoor.Mo
open Go.RowKit Dc Tn

/-- An operation that nothing asks for. -/
theorem wpOp_skip {P : Program} {ops : Array Oper} {Q : Exit → Act → World → Prop} {i : Nat} {o : Oper} {K : Act → World → Prop} {a : Act} {w : World} (ho : ops[i]? = some o) (hw : Region.wanted o (yielded ops a.tmps) = false) (h : K (a.put o.dst undef) w) : wpOp P ops Q i K a w := by
  refine wpOp_step ho (fun K' hK => ?_)
  rw [if_neg (by simp [hw])]
  exact hK _ _ h
theorem Rb.skip {W : World} {n m : Nat} {a b c : Value} (h : Rb W n a b c) (ne : n ≠ m) (v : Value) : Rb (W.setCell ⟨m, 0, none⟩ v) n a b c := by
  have k : Wr m 0 1 W (W.setCell ⟨m, 0, none⟩ v) := (Wr.refl m 0 1 W).setCell 0 (by omega) v
  obtain ⟨t, K⟩ := h.bk
  have K2 := K.wr k ne
  exact ⟨K2.at 0, K2.at 1, K2.at 2, K2.free 0, K2.free 1, K2.free 2, t, K2⟩
end Go.Proofs.YtebilgnmnambnaaGreatDoor.Mo

namespace Go.Proofs.YtebilgnmnambnaaGreatDoor.Mo
open Go.RowKit Dc Tn

theorem word_val {xs : List Int} (h : Wd xs) (hv : val xs < 18446744073709551616) : nth xs 0 = val xs := by
  cases xs with
  | nil => simp [nth, val]
  | cons x xs =>
    have h1 : Wd xs := fun y hy => h y (List.mem_cons_of_mem _ hy)
    have := val_nonneg h1
    have hx := (nth_bd h 0).1
    simp only [val, nth] at *
    simp at *
    omega
end Go.Proofs.YtebilgnmnambnaaGreatDoor.Mo
