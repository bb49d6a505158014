import Derived.Test.YtapdhadpdbmkcaaGreatDoorPart26
import Derived.Test.YtapdhadpdbmkcaaGreatDoorPart48
import Derived.Test.YtapdhadpdbmkcaaGreatDoorPart49

namespace Go.Proofs.YtapdhadpdbmkcaaGreatDoor.Mo
open Go.RowKit Fu Tn Go.Lib Dc

theorem neg_iff (r : Rat) : r < 0 ↔ r.num < 0 := by rw [Rat.lt_iff]; simp
/-- A text's first sign. -/
theorem tn_first (r : Rat) : ∃ h : 0 < (tn r).size, (tn r).toList.isEmpty = false ∧ ((((tn r)[0].toNat : Int)) == 45) = decide (r.num < 0) := by
 have h0 : 0 < (tn r).size := by
  unfold tn
  rw [sB_size]
  obtain ⟨c, t, e, _⟩ := dec_cons r.num.natAbs
  unfold sg
  rw [e]
  split <;> simp
 refine ⟨h0, by rw [empty_iff]; exact decide_eq_false (by omega), ?_⟩
 have n := sg_neg (decide (r.num < 0)) r.num.natAbs
 have hb := bt_in h0
 have n : neg (tn r) = decide (r.num < 0) := n
 rw [← n]
 unfold neg
 rw [hb]
 rw [Bool.eq_iff_iff]
 simp
 omega
theorem ab_ps {r : Rat} {m : Nat} (h : PS r m) : PS (ab r) m := by
 unfold ab
 split
 ·exact h.neg
 ·exact h
theorem near_right (r : Rat) (n1 d1 : ByteArray) (g1 : n1.size ≤ 300 ∧ d1.size ≤ 300 ∧ goodE n1 d1 = 0) (a1 : n1 = tn r) (a2 : d1 = td r) (p1 : PS r 16) (mo p q : Int) (hp0 : -9223372036854775808 ≤ p) (hp1 : p ≤ 9223372036854775807) (w : World) (G : Gw w) :
  Calls Tryz.prog 3 #[wrt r, .int .i64 mo, .int .i64 p, .int .i64 q] w fun x w' => x = .returned (.bool true) ∧ Below w.heap.size w w' := by
 have HW := fun W (g : Gw W) => works_any W g
 have HA := fun W (_ : Gw W) => small_t g1 a1 a2 W
 obtain ⟨u, e1⟩ : ∃ u, IntKind.u64.wrap mo = u := ⟨_, rfl⟩
 obtain ⟨v, e2⟩ : ∃ v, IntKind.u64.wrap q = v := ⟨_, rfl⟩
 have u0 : 0 ≤ u := by rw [← e1, wrap_u64]; omega
 have v0 : 0 ≤ v := by rw [← e2, wrap_u64]; omega
 obtain ⟨t, e3⟩ : ∃ t, u % 200 = t := ⟨_, rfl⟩
 have t0 : 0 ≤ t := by omega
 have t1 : t ≤ 199 := by omega
 obtain ⟨z, e4⟩ : ∃ z, v % (1 + t) = z := ⟨_, rfl⟩
 have z0 : 0 ≤ z := by rw [← e4]; exact Int.emod_nonneg _ (by omega)
 have z2 : z < 1 + t := by rw [← e4]; exact Int.emod_lt_of_pos _ (by omega)
 have z1 : z ≤ 199 := by omega
 obtain ⟨M, hM⟩ : ∃ M : Nat, (M : Int) = 1 + t := ⟨(1 + t).toNat, by omega⟩
 have M1 : 1 ≤ M := by omega
 have M2 : M ≤ 4096 := by omega
 obtain ⟨c, hc⟩ : ∃ c : Rat, (p : Rat) / ((1 + z : Int) : Rat) = c := ⟨_, rfl⟩
 have zq : ((1 + z : Int) : Rat) ≠ 0 := by exact_mod_cast (show (1 + z : Int) ≠ 0 by omega)
 have pc : PS c 1 := by
  rw [← hc, Rat.div_def]
  exact quot_small p (1 + z) (by omega) (by omega) (by omega)
 have dc : c.den ≤ M := by
  have : c.den ≤ (1 + z).toNat := by
   refine den_le (z := p) (by omega) ?_
   rw [show (((1 + z).toNat : Nat) : Rat) = ((1 + z : Int) : Rat) by have : (((1 + z).toNat : Nat) : Int) = 1 + z := (by omega); rw [← this]; rfl, ← hc]
   grind
  omega
 obtain ⟨b1, b2⟩ := near_best r M M1 c dc
 have px := nr_ps p1 M1 M2
 have C3 := fun W g => near_c p1 M1 M2 W g
 have C4 := fun W g => Of_all p (1 + z) W hp0 hp1 (by omega) (by omega) (by omega) g
 rw [hc] at C4
 rw [hM] at C3
 have C5 := fun W g => sub_c px p1 (by decide) (by decide) W g
 have C6 := fun W g => sub_c pc p1 (by decide) (by decide) W g
 have pf := (px.sub p1).mono (show 19 + 16 + 1 ≤ 40 by decide)
 have po := (pc.sub p1).mono (show 1 + 16 + 1 ≤ 40 by decide)
 have CN := fun W (_ : Gw W) => cmp_c (ab_ps pf) (ab_ps po) (by decide) (by decide) W
 have CD := fun W (_ : Gw W) => cmp_c (PS.nat px.2 (by decide)) (PS.nat pc.2 (by decide)) (by decide) (by decide) W
 have pM : PS ((M : Int) : Rat) 1 := PS.nat (by have h1 : pw 1 = 18446744073709551616 := (by decide); omega) (by decide)
 have CM := fun W (_ : Gw W) => cmp_c (PS.nat px.2 (by decide)) pM (by decide) (by decide) W
 have CW := fun W (_ : Gw W) => whole_any M W (by omega)
 rw [hM] at CW
 simp only [wrt_nat] at CD CM
 rw [pcm_nat] at CD CM
 have ml : (if (nr r M).den < M then (-1 : Int) else if M < (nr r M).den then 1 else 0) ≤ 0 := by split <;> (try split) <;> omega
 have last : Hid (pcm (ab (nr r M - r)) (ab (c - r)) < 0 ∨ pcm (ab (nr r M - r)) (ab (c - r)) = 0 ∧ (if (nr r M).den < c.den then (-1 : Int) else if c.den < (nr r M).den then 1 else 0) ≤ 0) := by
  rcases b2 with k | ⟨k, k'⟩
  ·left; rw [pcm_lt k]; decide
  ·right
   rw [k, pcm_self]
   exact ⟨rfl, by split <;> (try split) <;> omega⟩
 clear b2
 obtain ⟨fl, fe, fc⟩ := tn_first (nr r M - r)
 obtain ⟨ol, oe, oc⟩ := tn_first (c - r)
 by_cases k1 : nr r M - r < 0
 ·have N5 := fun W g => neg_c pf (by decide) W g
  have ea : ab (nr r M - r) = -(nr r M - r) := by unfold ab; rw [if_pos k1]
  rw [decide_eq_true ((neg_iff _).1 k1)] at fc
  rw [ea] at CN last
  by_cases k2 : c - r < 0
  ·have N6 := fun W g => neg_c po (by decide) W g
   have eb : ab (c - r) = -(c - r) := by unfold ab; rw [if_pos k2]
   rw [decide_eq_true ((neg_iff _).1 k2)] at oc
   rw [eb] at CN last
   simp only [wrt_eq] at *
   exact near_nn _ _ _ _ _ _ _ _ _ _ _ _ _ _ _ _ _ _ mo p q u v t z w G HW HA C3 C4 C5 C6 N5 N6 CN CD CW CM e1 e2 u0 v0 e3 e4 t0 t1 z0 z1 fe oe fl ol fc oc ml last
  ·have eb : ab (c - r) = c - r := by unfold ab; rw [if_neg k2]
   rw [decide_eq_false (fun h => k2 ((neg_iff _).2 h))] at oc
   rw [eb] at CN last
   simp only [wrt_eq] at *
   exact near_np _ _ _ _ _ _ _ _ _ _ _ _ _ _ _ _ mo p q u v t z w G HW HA C3 C4 C5 C6 N5 CN CD CW CM e1 e2 u0 v0 e3 e4 t0 t1 z0 z1 fe oe fl ol fc oc ml last
 ·have ea : ab (nr r M - r) = nr r M - r := by unfold ab; rw [if_neg k1]
  rw [decide_eq_false (fun h => k1 ((neg_iff _).2 h))] at fc
  rw [ea] at CN last
  by_cases k2 : c - r < 0
  ·have N6 := fun W g => neg_c po (by decide) W g
   have eb : ab (c - r) = -(c - r) := by unfold ab; rw [if_pos k2]
   rw [decide_eq_true ((neg_iff _).1 k2)] at oc
   rw [eb] at CN last
   simp only [wrt_eq] at *
   exact near_pn _ _ _ _ _ _ _ _ _ _ _ _ _ _ _ _ mo p q u v t z w G HW HA C3 C4 C5 C6 N6 CN CD CW CM e1 e2 u0 v0 e3 e4 t0 t1 z0 z1 fe oe fl ol fc oc ml last
  ·have eb : ab (c - r) = c - r := by unfold ab; rw [if_neg k2]
   rw [decide_eq_false (fun h => k2 ((neg_iff _).2 h))] at oc
   rw [eb] at CN last
   simp only [wrt_eq] at *
   exact near_pp _ _ _ _ _ _ _ _ _ _ _ _ _ _ mo p q u v t z w G HW HA C3 C4 C5 C6 CN CD CW CM e1 e2 u0 v0 e3 e4 t0 t1 z0 z1 fe oe fl ol fc oc ml last
set_option maxHeartbeats 3200000 in
set_option maxRecDepth 100000 in
theorem near_not (an ad : ByteArray) (mo p q : Int) (w : World) (G : Gw w) (Ha : ∀ W, Calls Tryz.prog 5 #[.agg #[.string an, .string ad]] W fun x w' => x = .returned (.bool false) ∧ Below W.heap.size W w') :
  Calls Tryz.prog 3 #[.agg #[.string an, .string ad], .int .i64 mo, .int .i64 p, .int .i64 q] w fun x w' => x = .returned (.bool true) ∧ Below w.heap.size w w' := by
 have T0 := R1.new w an ad G
 have ⟨f00, f01, f02⟩ := T0.cells
 go_enter Tryz.func3, Tryz.ntmps3
 go_wp2_with (first
  | (go_at_call 4; refine (works_any _ T0.gw).mono ?_; rintro x w1 ⟨rfl, b1⟩; have T1 := T0.grow b1; have ⟨f10, f11, f12⟩ := T1.cells)
  | (go_at_call 5; refine (Ha _).mono ?_; rintro x w2 ⟨rfl, b2⟩; have T2 := T1.grow b2)
  | fail)
 go_ret
 exact ⟨rfl, T2.bel⟩
theorem nearest_law (an ad : ByteArray) (mo p q : Int) (hp0 : -9223372036854775808 ≤ p) (hp1 : p ≤ 9223372036854775807) (w : World) (G : Gw w) :
  Calls Tryz.prog 3 #[.agg #[.string an, .string ad], .int .i64 mo, .int .i64 p, .int .i64 q] w fun x w' => x = .returned (.bool true) ∧ Below w.heap.size w w' := by
 have Ha := small_any an ad
 by_cases g1 : an.size ≤ 300 ∧ ad.size ≤ 300 ∧ goodE an ad = 0
 ·obtain ⟨r, a1, a2, p1⟩ := small_r g1
  have := near_right r an ad g1 a1 a2 p1 mo p q hp0 hp1 w G
  rw [wrt_eq, ← a1, ← a2] at this
  exact this
 ·rw [decide_eq_false g1] at Ha
  exact near_not an ad mo p q w G Ha
end Go.Proofs.YtapdhadpdbmkcaaGreatDoor.Mo
