import Derived.Test.YtpmgbmafibkgnaaGreatDoorPart39
import Derived.Test.YtpmgbmafibkgnaaGreatDoorPart40
import Derived.Deep.RegionHeld3
import Derived.Test.YtpmgbmafibkgnaaGreatDoorPart42

namespace Go.Proofs.YtpmgbmafibkgnaaGreatDoor.Mo
open Go.RowKit Fu Tn Go.Lib Dc

/-- The simplest fraction from ln by ld to hn by hd, all above nought. -/
def sm : Nat → Nat → Nat → Nat → Nat → Nat × Nat
  | 0, _, _, _, _ => (0, 0)
  | f + 1, ln, ld, hn, hd =>
    if ln % ld = 0 then (ln / ld, 1)
    else if ln / ld * hd + hd ≤ hn then (ln / ld + 1, 1)
    else (ln / ld * (sm f hd (hn - ln / ld * hd) ld (ln % ld)).1 + (sm f hd (hn - ln / ld * hd) ld (ln % ld)).2, (sm f hd (hn - ln / ld * hd) ld (ln % ld)).1)
theorem dst1 (t l r h : Nat) : (t * l + r) * h = t * h * l + r * h := by grind
theorem dst2 (t l r h : Nat) : (t * l + r) * h = t * h * l + h * r := by grind
theorem dst3 (t l r h : Nat) : (t * l + r) * h = t * l * h + h * r := by grind
set_option maxHeartbeats 1600000 in
theorem smp_sm (f : Nat) : ∀ ln ld hn hd cn cd pn pd, 0 < f → 0 < ld → 0 < hd → ln * hd ≤ hn * ld → ld + hd ≤ f → smp f ln ld hn hd cn cd pn pd = ((sm f ln ld hn hd).1 * cn + (sm f ln ld hn hd).2 * pn, (sm f ln ld hn hd).1 * cd + (sm f ln ld hn hd).2 * pd) := by
  induction f with
  | zero => intro ln ld hn hd cn cd pn pd h; omega
  | succ f ih =>
    intro ln ld hn hd cn cd pn pd _ l0 h0 le hf
    obtain ⟨t, ht⟩ : ∃ t, ln / ld = t := ⟨_, rfl⟩
    obtain ⟨r, hr⟩ : ∃ r, ln % ld = r := ⟨_, rfl⟩
    have e : ln = t * ld + r := by
      have := Nat.div_add_mod ln ld
      rw [ht, hr, Nat.mul_comm] at this
      omega
    have rl : r < ld := hr ▸ Nat.mod_lt _ l0
    unfold smp sm
    rw [ht, hr]
    by_cases c1 : r = 0
    · rw [if_pos c1, if_pos c1]; simp
    · rw [if_neg c1, if_neg c1]
      by_cases c2 : t * hd + hd ≤ hn
      · rw [if_pos c2, if_pos c2]; simp
      · rw [if_neg c2, if_neg c2]
        have lt : t * hd < hn := by
          have q1 : (t * ld + r) * hd = t * hd * ld + r * hd := dst1 _ _ _ _
          have q2 := Nat.mul_pos (show 0 < r by omega) h0
          have : t * hd * ld < hn * ld := by rw [e, q1] at le; omega
          exact Nat.lt_of_mul_lt_mul_right this
        obtain ⟨d, hd'⟩ : ∃ d, hn - t * hd = d := ⟨_, rfl⟩
        rw [hd']
        have eh : hn = t * hd + d := by omega
        have le' : hd * r ≤ ld * d := by
          rw [e, eh] at le
          have q1 : (t * ld + r) * hd = t * hd * ld + hd * r := dst2 _ _ _ _
          have q2 : (t * hd + d) * ld = t * hd * ld + ld * d := dst3 _ _ _ _
          omega
        rw [ih hd d ld r _ _ _ _ (by omega) (by omega) (by omega) le' (by omega)]
        generalize sm f hd d ld r = P
        obtain ⟨X, Y⟩ := P
        simp only [Prod.mk.injEq]
        exact ⟨by grind, by grind⟩
set_option maxHeartbeats 1600000 in
/-- What the simplest fraction is: it lies there, in lowest terms, and no other has a lesser part. -/
theorem sm_spec (f : Nat) : ∀ ln ld hn hd, 0 < ln → 0 < ld → 0 < hd → ln * hd ≤ hn * ld → ld + hd ≤ f →
    0 < (sm f ln ld hn hd).1 ∧ 0 < (sm f ln ld hn hd).2 ∧ Nat.Coprime (sm f ln ld hn hd).1 (sm f ln ld hn hd).2 ∧ ln * (sm f ln ld hn hd).2 ≤ (sm f ln ld hn hd).1 * ld ∧ (sm f ln ld hn hd).1 * hd ≤ hn * (sm f ln ld hn hd).2 ∧
    ∀ a b, 0 < b → ln * b ≤ a * ld → a * hd ≤ hn * b → (sm f ln ld hn hd).1 ≤ a ∧ (sm f ln ld hn hd).2 ≤ b := by
  induction f with
  | zero => intro ln ld hn hd _ h; omega
  | succ f ih =>
    intro ln ld hn hd n0 l0 h0 le hf
    obtain ⟨t, ht⟩ : ∃ t, ln / ld = t := ⟨_, rfl⟩
    obtain ⟨r, hr⟩ : ∃ r, ln % ld = r := ⟨_, rfl⟩
    have e : ln = t * ld + r := by
      have := Nat.div_add_mod ln ld
      rw [ht, hr, Nat.mul_comm] at this
      omega
    have rl : r < ld := hr ▸ Nat.mod_lt _ l0
    unfold sm
    rw [ht, hr]
    by_cases c1 : r = 0
    · rw [if_pos c1]
      subst c1
      have t0 : 0 < t := by
        by_cases z : t = 0
        · subst z; simp at e; omega
        · omega
      simp only
      refine ⟨t0, Nat.one_pos, by simp, by rw [Nat.mul_one]; omega, ?_, ?_⟩
      · rw [e] at le
        have : t * hd * ld ≤ hn * ld := by
          have q : (t * ld + 0) * hd = t * hd * ld := by grind
          omega
        have := Nat.le_of_mul_le_mul_right this l0
        simpa using this
      · intro a b b0 h1 _
        rw [e] at h1
        have q : (t * ld + 0) * b = t * b * ld := by grind
        have h2 : t * b * ld ≤ a * ld := by omega
        have h3 := Nat.le_of_mul_le_mul_right h2 l0
        have h4 := Nat.le_mul_of_pos_right t b0
        exact ⟨by omega, b0⟩
    · rw [if_neg c1]
      have above : ∀ a b, 0 < b → ln * b ≤ a * ld → t * b < a := by
        intro a b b0 h1
        rw [e] at h1
        have q : (t * ld + r) * b = t * b * ld + r * b := dst1 _ _ _ _
        have := Nat.mul_pos (show 0 < r by omega) b0
        have h2 : t * b * ld < a * ld := by omega
        exact Nat.lt_of_mul_lt_mul_right h2
      by_cases c2 : t * hd + hd ≤ hn
      · rw [if_pos c2]
        simp only
        refine ⟨by omega, Nat.one_pos, by simp, ?_, ?_, ?_⟩
        · rw [e, Nat.mul_one, Nat.add_mul t 1, Nat.one_mul]; omega
        · rw [Nat.add_mul, Nat.one_mul, Nat.mul_one]; omega
        · intro a b b0 h1 _
          have := above a b b0 h1
          have h4 := Nat.le_mul_of_pos_right t b0
          exact ⟨by omega, b0⟩
      · rw [if_neg c2]
        have lt : t * hd < hn := by
          have q1 : (t * ld + r) * hd = t * hd * ld + r * hd := dst1 _ _ _ _
          have q2 := Nat.mul_pos (show 0 < r by omega) h0
          have : t * hd * ld < hn * ld := by rw [e, q1] at le; omega
          exact Nat.lt_of_mul_lt_mul_right this
        obtain ⟨d, hd'⟩ : ∃ d, hn - t * hd = d := ⟨_, rfl⟩
        rw [hd']
        have eh : hn = t * hd + d := by omega
        have le' : hd * r ≤ ld * d := by
          rw [e, eh] at le
          have q1 : (t * ld + r) * hd = t * hd * ld + hd * r := dst2 _ _ _ _
          have q2 : (t * hd + d) * ld = t * hd * ld + ld * d := dst3 _ _ _ _
          omega
        obtain ⟨i1, i2, i3, i4, i5, i6⟩ := ih hd d ld r h0 (by omega) (by omega) le' (by omega)
        generalize sm f hd d ld r = P at *
        obtain ⟨X, Y⟩ := P
        simp only at *
        refine ⟨by omega, i1, ?_, ?_, ?_, ?_⟩
        · have : Nat.gcd (t * X + Y) X = Nat.gcd Y X := by rw [Nat.add_comm, Nat.gcd_add_mul_right_left]
          unfold Nat.Coprime at *
          rw [this, Nat.gcd_comm]; exact i3
        · rw [e]
          have q1 : (t * ld + r) * X = t * ld * X + X * r := dst3 _ _ _ _
          have q2 : (t * X + Y) * ld = t * ld * X + ld * Y := dst2 _ _ _ _
          rw [q1, q2]; omega
        · rw [eh]
          have q1 : (t * X + Y) * hd = t * hd * X + hd * Y := dst2 _ _ _ _
          have q2 : (t * hd + d) * X = t * hd * X + X * d := dst3 _ _ _ _
          rw [q1, q2]; omega
        · intro a b b0 h1 h2
          have ab := above a b b0 h1
          obtain ⟨c, hc⟩ : ∃ c, a = t * b + c := ⟨a - t * b, by omega⟩
          subst hc
          have c0 : 0 < c := by omega
          have k1 : hd * c ≤ b * d := by
            rw [eh] at h2
            have q1 : (t * b + c) * hd = t * hd * b + hd * c := dst2 _ _ _ _
            have q2 : (t * hd + d) * b = t * hd * b + b * d := dst3 _ _ _ _
            omega
          have k2 : b * r ≤ ld * c := by
            rw [e] at h1
            have q1 : (t * ld + r) * b = t * ld * b + b * r := dst3 _ _ _ _
            have q2 : (t * b + c) * ld = t * ld * b + ld * c := dst2 _ _ _ _
            omega
          obtain ⟨j1, j2⟩ := i6 b c c0 k1 k2
          refine ⟨?_, j1⟩
          have := Nat.mul_le_mul_left t j1
          omega
end Go.Proofs.YtpmgbmafibkgnaaGreatDoor.Mo

namespace Go.Proofs.YtpmgbmafibkgnaaGreatDoor.Mo
open Go.RowKit Fu Tn Go.Lib Dc

/-- X by Y, in lowest terms. -/
def bq (X Y : Nat) : Rat := if h : Y ≠ 0 ∧ Nat.Coprime X Y then ⟨X, Y, h.1, by simpa using h.2⟩ else 0
theorem bq_parts {X Y : Nat} (hY : 0 < Y) (hc : Nat.Coprime X Y) : (bq X Y).num = X ∧ (bq X Y).den = Y := by
  unfold bq
  rw [dif_pos ⟨by omega, hc⟩]
  exact ⟨rfl, rfl⟩
/-- The simplest number from r to s, both above nought. -/
def b1 (r s : Rat) : Rat := bq (sm (r.den + s.den) r.num.natAbs r.den s.num.natAbs s.den).1 (sm (r.den + s.den) r.num.natAbs r.den s.num.natAbs s.den).2
theorem pos_num {r : Rat} (h : 0 < r) : 0 < r.num := by rw [Rat.lt_iff] at h; simpa using h
theorem le_nat {r s : Rat} (r0 : 0 ≤ r.num) (s0 : 0 ≤ s.num) : r ≤ s ↔ r.num.natAbs * s.den ≤ s.num.natAbs * r.den := by
  rw [Rat.le_iff]
  have e1 : (r.num.natAbs : Int) = r.num := by omega
  have e2 : (s.num.natAbs : Int) = s.num := by omega
  rw [← e1, ← e2]
  constructor
  · intro h; exact_mod_cast h
  · intro h; exact_mod_cast h
theorem b1_spec {r s : Rat} (r0 : 0 < r) (le : r ≤ s) : (b1 r s).num = (sm (r.den + s.den) r.num.natAbs r.den s.num.natAbs s.den).1 ∧ (b1 r s).den = (sm (r.den + s.den) r.num.natAbs r.den s.num.natAbs s.den).2 ∧ 0 < (b1 r s).num ∧ r ≤ b1 r s ∧ b1 r s ≤ s ∧ ∀ c, r ≤ c → c ≤ s → (b1 r s).den ≤ c.den ∧ (b1 r s).num.natAbs ≤ c.num.natAbs := by
  have n0 := pos_num r0
  have s0 : 0 < s := by grind
  have m0 := pos_num s0
  obtain ⟨p1, p2, p3, p4, p5, p6⟩ := sm_spec (r.den + s.den) r.num.natAbs r.den s.num.natAbs s.den (by omega) (Nat.pos_of_ne_zero r.den_nz) (Nat.pos_of_ne_zero s.den_nz) ((le_nat (by omega) (by omega)).1 le) (Nat.le_refl _)
  obtain ⟨q1, q2⟩ := bq_parts p2 p3
  have q1' : (b1 r s).num = (sm (r.den + s.den) r.num.natAbs r.den s.num.natAbs s.den).1 := q1
  have q2' : (b1 r s).den = (sm (r.den + s.den) r.num.natAbs r.den s.num.natAbs s.den).2 := q2
  generalize sm (r.den + s.den) r.num.natAbs r.den s.num.natAbs s.den = P at *
  have q3 : (b1 r s).num.natAbs = P.1 := by rw [q1']; simp
  refine ⟨q1', q2', by omega, ?_, ?_, ?_⟩
  · rw [le_nat (by omega) (by omega), q3, q2']; exact p4
  · rw [le_nat (by omega) (by omega), q3, q2']; exact p5
  · intro c h1 h2
    have c0 := pos_num (show 0 < c by grind)
    rw [q3, q2']
    have := p6 c.num.natAbs c.den (Nat.pos_of_ne_zero c.den_nz) ((le_nat (by omega) (by omega)).1 h1) ((le_nat (by omega) (by omega)).1 h2)
    exact ⟨this.2, this.1⟩
/-- The simplest number from r to s. -/
def bt (r s : Rat) : Rat := if r ≤ 0 ∧ 0 ≤ s then 0 else if s < 0 then -(b1 (-s) (-r)) else b1 r s
theorem bt_spec {r s : Rat} (le : r ≤ s) : r ≤ bt r s ∧ bt r s ≤ s ∧ ∀ c, r ≤ c → c ≤ s → (bt r s).den ≤ c.den ∧ (bt r s).num.natAbs ≤ c.num.natAbs := by
  unfold bt
  by_cases h1 : r ≤ 0 ∧ 0 ≤ s
  · rw [if_pos h1]
    refine ⟨h1.1, h1.2, fun c _ _ => ⟨?_, by simp⟩⟩
    have := c.den_nz
    show 1 ≤ c.den
    omega
  · rw [if_neg h1]
    by_cases h2 : s < 0
    · rw [if_pos h2]
      obtain ⟨_, _, _, k1, k2, k3⟩ := b1_spec (r := -s) (s := -r) (by grind) (by grind)
      refine ⟨by grind, by grind, fun c c1 c2 => ?_⟩
      have := k3 (-c) (by grind) (by grind)
      rw [Rat.neg_den, Rat.neg_num, Int.natAbs_neg] at this
      rw [Rat.neg_den, Rat.neg_num, Int.natAbs_neg]
      exact this
    · rw [if_neg h2]
      obtain ⟨_, _, _, k1, k2, k3⟩ := b1_spec (r := r) (s := s) (by grind) le
      exact ⟨k1, k2, k3⟩
end Go.Proofs.YtpmgbmafibkgnaaGreatDoor.Mo

namespace Go.Proofs.YtpmgbmafibkgnaaGreatDoor.Mo
open Go.RowKit Fu Tn Go.Lib Dc

set_option maxHeartbeats 3200000 in
set_option maxRecDepth 100000 in
theorem Simplest_zero (L0 M00 H0 I0 : Wl) (g1 g2 : Bool) (k k' A B : Int) (w : World) (hk : k ≤ 0) (hk' : k' ≥ 0)
    (CS : ∀ x, Below w.heap.size w x → Calls Tryz.prog 31 #[.agg #[.bool g1, .slice L0.a L0.l L0.c, .slice M00.a M00.l M00.c]] x fun e w' => e = .returned (.int .i64 k) ∧ Below x.heap.size x w')
    (CH : ∀ x, Below w.heap.size w x → Calls Tryz.prog 31 #[.agg #[.bool g2, .slice H0.a H0.l H0.c, .slice I0.a I0.l I0.c]] x fun e w' => e = .returned (.int .i64 k') ∧ Below x.heap.size x w')
    (CO : ∀ x, Calls Tryz.prog 17 #[.int .i64 0] x fun e w' => ∃ (a : Option Addr × Option Addr) (l c : Nat × Nat), e = .returned (.agg #[.bool false, .slice a.1 l.1 c.1, .slice a.2 l.2 c.2]) ∧ (Nn w' a.1 l.1 c.1 A ∧ Nn w' a.2 l.2 c.2 B) ∧ Below x.heap.size x w') :
    Calls Tryz.prog 15 #[.agg #[.bool g1, .slice L0.a L0.l L0.c, .slice M00.a M00.l M00.c], .agg #[.bool g2, .slice H0.a H0.l H0.c, .slice I0.a I0.l I0.c]] w fun e w' => ∃ (a : Option Addr × Option Addr) (l c : Nat × Nat), e = .returned (.agg #[.bool false, .slice a.1 l.1 c.1, .slice a.2 l.2 c.2]) ∧ (Nn w' a.1 l.1 c.1 A ∧ Nn w' a.2 l.2 c.2 B) ∧ Below w.heap.size w w' := by
  have K0 := ((Rb.new w (.bool g1) (.slice L0.a L0.l L0.c) (.slice M00.a M00.l M00.c) 41).alloc (.cells #[.bool g2, .slice H0.a H0.l H0.c, .slice I0.a I0.l I0.c] 41)).alloc (.cells #[.bool false, .slice none 0 0, .slice none 0 0] 41)
  have K1 := (Rb.new (w.alloc (.cells #[.bool g1, .slice L0.a L0.l L0.c, .slice M00.a M00.l M00.c] 41)) (.bool g2) (.slice H0.a H0.l H0.c) (.slice I0.a I0.l I0.c) 41).alloc (.cells #[.bool false, .slice none 0 0, .slice none 0 0] 41)
  have K2 := Rb.new ((w.alloc (.cells #[.bool g1, .slice L0.a L0.l L0.c, .slice M00.a M00.l M00.c] 41)).alloc (.cells #[.bool g2, .slice H0.a H0.l H0.c, .slice I0.a I0.l I0.c] 41)) (.bool false) (.slice none 0 0) (.slice none 0 0) 41
  have pr : Below w.heap.size w (((w.alloc (.cells #[.bool g1, .slice L0.a L0.l L0.c, .slice M00.a M00.l M00.c] 41)).alloc (.cells #[.bool g2, .slice H0.a H0.l H0.c, .slice I0.a I0.l I0.c] 41)).alloc (.cells #[.bool false, .slice none 0 0, .slice none 0 0] 41)) := (((Below.refl _ _).alloc (Nat.le_refl _) _).alloc (by simp) _).alloc (by simp; omega) _
  simp only [World.size_alloc] at K1 K2
  go_enter Tryz.func15, Tryz.ntmps15
  go_wp2_with fail
  generalize ((w.alloc (.cells #[.bool g1, .slice L0.a L0.l L0.c, .slice M00.a M00.l M00.c] 41)).alloc (.cells #[.bool g2, .slice H0.a H0.l H0.c, .slice I0.a I0.l I0.c] 41)).alloc (.cells #[.bool false, .slice none 0 0, .slice none 0 0] 41) = W at *
  have k0 := K0.c0
  have k1 := K0.c1
  have k2 := K0.c2
  go_wp2_with (first
    | (go_at_call 31; (have z := p1); refine (CH _ p1).mono ?_; rintro e w2 ⟨rfl, d2⟩; have d2 := bel' d1 d2)
    | (go_at_call 31; refine (CS _ pr).mono ?_; rintro e w1 ⟨rfl, d1⟩; have p1 := bel' pr d1; have K11 := K1.grow d1; have q3 := K11.c0; have q4 := K11.c1; have q5 := K11.c2)
    | (go_at_call 17; refine (CO _).mono ?_; rintro e w3 ⟨a, l, c, rfl, ⟨n1, n2⟩, d3⟩; have d3 := bel' d2 d3; have K22 := K2.grow d3; have r0 := K22.c0; have r1 := K22.c1; have r2 := K22.c2; have s0 := K22.f0; have s1 := K22.f1; have s2 := K22.f2)
    | fail)
  have N1 := n1.putF (x := .bool false) (y := .slice a.1 l.1 c.1) (z := .slice a.2 l.2 c.2) K22
  have N2 := n2.putF (x := .bool false) (y := .slice a.1 l.1 c.1) (z := .slice a.2 l.2 c.2) K22
  obtain ⟨z0, z1, z2⟩ := K22.put (.bool false) (.slice a.1 l.1 c.1) (.slice a.2 l.2 c.2)
  have BE := bset3 (n := w.heap.size + 1 + 1) (x := .bool false) (y := .slice a.1 l.1 c.1) (z := .slice a.2 l.2 c.2) (bel' pr d3) (by omega)
  generalize ((w3.setCell ⟨w.heap.size + 1 + 1, 0, none⟩ (.bool false)).setCell ⟨w.heap.size + 1 + 1, 1, none⟩ (.slice a.1 l.1 c.1)).setCell ⟨w.heap.size + 1 + 1, 2, none⟩ (.slice a.2 l.2 c.2) = WE at *
  exact bodyPost_ret (v := .agg #[.bool false, .slice a.1 l.1 c.1, .slice a.2 l.2 c.2]) (by simp [results, Tryz.results15, go_sem, z0, z1, z2]) rfl ⟨a, l, c, rfl, ⟨N1, N2⟩, BE⟩
set_option maxHeartbeats 3200000 in
set_option maxRecDepth 100000 in
theorem Simplest_neg (L0 M00 H0 I0 : Wl) (A B : Int) (w : World)
    (CS : ∀ x, Below w.heap.size w x → Calls Tryz.prog 31 #[.agg #[.bool true, .slice L0.a L0.l L0.c, .slice M00.a M00.l M00.c]] x fun e w' => e = .returned (.int .i64 (-1)) ∧ Below x.heap.size x w')
    (CH : ∀ x, Below w.heap.size w x → Calls Tryz.prog 31 #[.agg #[.bool true, .slice H0.a H0.l H0.c, .slice I0.a I0.l I0.c]] x fun e w' => e = .returned (.int .i64 (-1)) ∧ Below x.heap.size x w')
    (CN1 : ∀ x, Calls Tryz.prog 33 #[.agg #[.bool true, .slice H0.a H0.l H0.c, .slice I0.a I0.l I0.c]] x fun e w' => e = .returned (.agg #[.bool false, .slice H0.a H0.l H0.c, .slice I0.a I0.l I0.c]) ∧ Below x.heap.size x w')
    (CN2 : ∀ x, Calls Tryz.prog 33 #[.agg #[.bool true, .slice L0.a L0.l L0.c, .slice M00.a M00.l M00.c]] x fun e w' => e = .returned (.agg #[.bool false, .slice L0.a L0.l L0.c, .slice M00.a M00.l M00.c]) ∧ Below x.heap.size x w')
    (CA : ∀ x, Below w.heap.size w x → Calls Tryz.prog 32 #[.agg #[.bool false, .slice H0.a H0.l H0.c, .slice I0.a I0.l I0.c], .agg #[.bool false, .slice L0.a L0.l L0.c, .slice M00.a M00.l M00.c]] x fun e w' => ∃ (a : Option Addr × Option Addr) (l c : Nat × Nat), e = .returned (.agg #[.bool false, .slice a.1 l.1 c.1, .slice a.2 l.2 c.2]) ∧ (Nn w' a.1 l.1 c.1 A ∧ Nn w' a.2 l.2 c.2 B) ∧ Below x.heap.size x w')
    (CN3 : ∀ x (a : Option Addr × Option Addr) (l c : Nat × Nat), Nn x a.1 l.1 c.1 A → Calls Tryz.prog 33 #[.agg #[.bool false, .slice a.1 l.1 c.1, .slice a.2 l.2 c.2]] x fun e w' => e = .returned (.agg #[.bool true, .slice a.1 l.1 c.1, .slice a.2 l.2 c.2]) ∧ Below x.heap.size x w') :
    Calls Tryz.prog 15 #[.agg #[.bool true, .slice L0.a L0.l L0.c, .slice M00.a M00.l M00.c], .agg #[.bool true, .slice H0.a H0.l H0.c, .slice I0.a I0.l I0.c]] w fun e w' => ∃ (a : Option Addr × Option Addr) (l c : Nat × Nat), e = .returned (.agg #[.bool true, .slice a.1 l.1 c.1, .slice a.2 l.2 c.2]) ∧ (Nn w' a.1 l.1 c.1 A ∧ Nn w' a.2 l.2 c.2 B) ∧ Below w.heap.size w w' := by
  have K0 := ((Rb.new w (.bool true) (.slice L0.a L0.l L0.c) (.slice M00.a M00.l M00.c) 41).alloc (.cells #[.bool true, .slice H0.a H0.l H0.c, .slice I0.a I0.l I0.c] 41)).alloc (.cells #[.bool false, .slice none 0 0, .slice none 0 0] 41)
  have K1 := (Rb.new (w.alloc (.cells #[.bool true, .slice L0.a L0.l L0.c, .slice M00.a M00.l M00.c] 41)) (.bool true) (.slice H0.a H0.l H0.c) (.slice I0.a I0.l I0.c) 41).alloc (.cells #[.bool false, .slice none 0 0, .slice none 0 0] 41)
  have K2 := Rb.new ((w.alloc (.cells #[.bool true, .slice L0.a L0.l L0.c, .slice M00.a M00.l M00.c] 41)).alloc (.cells #[.bool true, .slice H0.a H0.l H0.c, .slice I0.a I0.l I0.c] 41)) (.bool false) (.slice none 0 0) (.slice none 0 0) 41
  have pr : Below w.heap.size w (((w.alloc (.cells #[.bool true, .slice L0.a L0.l L0.c, .slice M00.a M00.l M00.c] 41)).alloc (.cells #[.bool true, .slice H0.a H0.l H0.c, .slice I0.a I0.l I0.c] 41)).alloc (.cells #[.bool false, .slice none 0 0, .slice none 0 0] 41)) := (((Below.refl _ _).alloc (Nat.le_refl _) _).alloc (by simp) _).alloc (by simp; omega) _
  simp only [World.size_alloc] at K1 K2
  go_enter Tryz.func15, Tryz.ntmps15
  go_wp2_with fail
  generalize ((w.alloc (.cells #[.bool true, .slice L0.a L0.l L0.c, .slice M00.a M00.l M00.c] 41)).alloc (.cells #[.bool true, .slice H0.a H0.l H0.c, .slice I0.a I0.l I0.c] 41)).alloc (.cells #[.bool false, .slice none 0 0, .slice none 0 0] 41) = W at *
  have k0 := K0.c0
  have k1 := K0.c1
  have k2 := K0.c2
  go_wp2_with (first
    | (go_at_call 31; (have z := p1); refine (CH _ p1).mono ?_; rintro e w2 ⟨rfl, d2⟩; have K02 := (K0.grow d1).grow d2; have K12 := K11.grow d2; have K22' := (K2.grow d1).grow d2; have p2 := bel' p1 d2; have q6 := K12.c0)
    | (go_at_call 31; refine (CS _ pr).mono ?_; rintro e w1 ⟨rfl, d1⟩; have p1 := bel' pr d1; have K11 := K1.grow d1; have q3 := K11.c0; have q4 := K11.c1; have q5 := K11.c2)
    | fail)
  clear K0 K1 K2 K11 k0 k1 k2 q3 q4 q5 q6 p1 pr d1 d2 CS CH
  have K0 := K02
  have K1 := K12
  have K2 := K22'
  have k0 := K0.c0
  have k1 := K0.c1
  have k2 := K0.c2
  have k3 := K1.c0
  have k4 := K1.c1
  have k5 := K1.c2
  have hn1 : w.heap.size ≠ w.heap.size + 1 + 1 := by omega
  have hn2 : w.heap.size + 1 + 1 ≠ w.heap.size := by omega
  go_region_held3 (fun x => x.cell? ⟨w.heap.size, 0, none⟩ = some (.bool true) ∧ x.cell? ⟨w.heap.size, 1, none⟩ = some (.slice L0.a L0.l L0.c) ∧ x.cell? ⟨w.heap.size, 2, none⟩ = some (.slice M00.a M00.l M00.c) ∧ x.cell? ⟨w.heap.size + 1, 0, none⟩ = some (.bool true) ∧ x.cell? ⟨w.heap.size + 1, 1, none⟩ = some (.slice H0.a H0.l H0.c) ∧ x.cell? ⟨w.heap.size + 1, 2, none⟩ = some (.slice I0.a I0.l I0.c)) (go_keep) (first
    | (go_at_call 33; (have z := d5); refine (CN3 _ a l c n1).mono ?_; rintro e w6 ⟨rfl, d6⟩; have n1 := n1.grow d6; have n2 := n2.grow d6; have d6 := bel' d5 d6; have m0 := (K0.grow d6).c0; have m1 := (K0.grow d6).c1; have m2 := (K0.grow d6).c2; have m3 := (K1.grow d6).c0; have m4 := (K1.grow d6).c1; have m5 := (K1.grow d6).c2; have K22 := K2.grow d6; have r0 := K22.c0; have r1 := K22.c1; have r2 := K22.c2; have s0 := K22.f0; have s1 := K22.f1; have s2 := K22.f2)
    | (go_at_call 32; refine (CA _ (bel' p2 d4)).mono ?_; rintro e w5 ⟨a, l, c, rfl, ⟨n1, n2⟩, d5⟩; have d5 := bel' d4 d5; have j0 := (K0.grow d5).c0; have j1 := (K0.grow d5).c1; have j2 := (K0.grow d5).c2; have j3 := (K1.grow d5).c0; have j4 := (K1.grow d5).c1; have j5 := (K1.grow d5).c2)
    | (go_at_call 33; (have z := d3); refine (CN2 _).mono ?_; rintro e w4 ⟨rfl, d4⟩; have d4 := bel' d3 d4; have i0 := (K0.grow d4).c0; have i1 := (K0.grow d4).c1; have i2 := (K0.grow d4).c2; have i3 := (K1.grow d4).c0; have i4 := (K1.grow d4).c1; have i5 := (K1.grow d4).c2)
    | (go_at_call 33; refine (CN1 _).mono ?_; rintro e w3 ⟨rfl, d3⟩; have d3 := undrew d3; have h0 := (K0.grow d3).c0; have h1 := (K0.grow d3).c1; have h2 := (K0.grow d3).c2; have h3 := (K1.grow d3).c0; have h4 := (K1.grow d3).c1; have h5 := (K1.grow d3).c2)
    | fail)
  have N1 := n1.putF (x := .bool true) (y := .slice a.1 l.1 c.1) (z := .slice a.2 l.2 c.2) K22
  have N2 := n2.putF (x := .bool true) (y := .slice a.1 l.1 c.1) (z := .slice a.2 l.2 c.2) K22
  obtain ⟨z0, z1, z2⟩ := K22.put (.bool true) (.slice a.1 l.1 c.1) (.slice a.2 l.2 c.2)
  have BE := bset3 (n := w.heap.size + 1 + 1) (x := .bool true) (y := .slice a.1 l.1 c.1) (z := .slice a.2 l.2 c.2) (bel' p2 d6) (by omega)
  go_wp2_with fail
  generalize ((w6.setCell ⟨w.heap.size + 1 + 1, 0, none⟩ (.bool true)).setCell ⟨w.heap.size + 1 + 1, 1, none⟩ (.slice a.1 l.1 c.1)).setCell ⟨w.heap.size + 1 + 1, 2, none⟩ (.slice a.2 l.2 c.2) = WE at *
  exact bodyPost_ret (v := .agg #[.bool true, .slice a.1 l.1 c.1, .slice a.2 l.2 c.2]) (by simp [results, Tryz.results15, go_sem, z0, z1, z2]) rfl ⟨a, l, c, rfl, ⟨N1, N2⟩, BE⟩
set_option maxHeartbeats 3200000 in
set_option maxRecDepth 100000 in
theorem Between_no (s1 t1 s2 t2 : ByteArray) (g1 g2 : Bool) (O1 D1 O2 D2 : Int) (k : Int) (w : World) (hk : k > 0)
    (CR' : ∀ x, Below w.heap.size w x → Calls Tryz.prog 13 #[.agg #[.string s1, .string t1], .agg #[.string s2, .string t2]] x fun e w' => ∃ (a : (Option Addr × Option Addr) × (Option Addr × Option Addr)) (l c : (Nat × Nat) × (Nat × Nat)), e = .returned (.tuple #[.agg #[.bool g1, .slice a.1.1 l.1.1 c.1.1, .slice a.1.2 l.1.2 c.1.2], .agg #[.bool g2, .slice a.2.1 l.2.1 c.2.1, .slice a.2.2 l.2.2 c.2.2], .int .i64 0]) ∧ ((Nn w' a.1.1 l.1.1 c.1.1 O1 ∧ Nn w' a.1.2 l.1.2 c.1.2 D1) ∧ (Nn w' a.2.1 l.2.1 c.2.1 O2 ∧ Nn w' a.2.2 l.2.2 c.2.2 D2)) ∧ Below x.heap.size x w')
    (CC : ∀ x (a : Option Addr × Option Addr) (l c : Nat × Nat) (a' : Option Addr × Option Addr) (l' c' : Nat × Nat), Nn x a.1 l.1 c.1 O1 → Nn x a.2 l.2 c.2 D1 → Nn x a'.1 l'.1 c'.1 O2 → Nn x a'.2 l'.2 c'.2 D2 → Calls Tryz.prog 14 #[.agg #[.bool g1, .slice a.1 l.1 c.1, .slice a.2 l.2 c.2], .agg #[.bool g2, .slice a'.1 l'.1 c'.1, .slice a'.2 l'.2 c'.2]] x fun e w' => e = .returned (.int .i64 k) ∧ Below x.heap.size x w') :
    Calls Tryz.prog 6 #[.agg #[.string s1, .string t1], .agg #[.string s2, .string t2]] w fun e w' => e = .returned (.tuple #[.agg #[.string ⟨#[]⟩, .string ⟨#[]⟩], .int .i64 1]) ∧ Below w.heap.size w w' := by
  have KA := ((Blk.new w #[.string s1, .string t1] 23).alloc (.cells #[.string s2, .string t2] 23)).alloc (.cells #[.string ⟨#[]⟩, .string ⟨#[]⟩] 23)
  have KB := (Blk.new (w.alloc (.cells #[.string s1, .string t1] 23)) #[.string s2, .string t2] 23).alloc (.cells #[.string ⟨#[]⟩, .string ⟨#[]⟩] 23)
  have KR := Blk.new ((w.alloc (.cells #[.string s1, .string t1] 23)).alloc (.cells #[.string s2, .string t2] 23)) #[.string ⟨#[]⟩, .string ⟨#[]⟩] 23
  simp only [World.size_alloc] at KB KR
  have pr : Below w.heap.size w (((w.alloc (.cells #[.string s1, .string t1] 23)).alloc (.cells #[.string s2, .string t2] 23)).alloc (.cells #[.string ⟨#[]⟩, .string ⟨#[]⟩] 23)) := (((Below.refl _ _).alloc (Nat.le_refl _) _).alloc (by simp) _).alloc (by simp; omega) _
  go_enter Tryz.func6, Tryz.ntmps6
  go_wp2_with fail
  have ka0 := KA.at 0
  have ka1 := KA.at 1
  have kb0 := KB.at 0
  have kb1 := KB.at 1
  simp at ka0 ka1 kb0 kb1
  generalize (((w.alloc (.cells #[.string s1, .string t1] 23)).alloc (.cells #[.string s2, .string t2] 23)).alloc (.cells #[.string ⟨#[]⟩, .string ⟨#[]⟩] 23)) = W at *
  go_wp2_with (first
    | (go_at_call 13; go_must (refine (CR' _ pr).mono ?_; rintro e w1 ⟨p, q, r, rfl, H, b1⟩; (have al := (((Below.refl w1.heap.size w1).alloc (Nat.le_refl _) (.cells #[.bool g1, .slice p.1.1 q.1.1 r.1.1, .slice p.1.2 q.1.2 r.1.2] 41)).alloc (by simp) (.cells #[.bool g2, .slice p.2.1 q.2.1 r.2.1, .slice p.2.2 q.2.2 r.2.2] 41))); (have b2 := bel' b1 al); (have pB := bel' pr b2); (have n1 := (⟨H.1.1.grow al, H.1.2.grow al⟩ : _ ∧ _)); (have n2 := (⟨H.2.1.grow al, H.2.2.grow al⟩ : _ ∧ _)); (have KR1 := KR.below b2 KR.lt); (have KF := Rb.new w1 (.bool g1) (.slice p.1.1 q.1.1 r.1.1) (.slice p.1.2 q.1.2 r.1.2) 41); (have KF := KF.alloc (.cells #[.bool g2, .slice p.2.1 q.2.1 r.2.1, .slice p.2.2 q.2.2 r.2.2] 41)); (have KG := Rb.new (w1.alloc (.cells #[.bool g1, .slice p.1.1 q.1.1 r.1.1, .slice p.1.2 q.1.2 r.1.2] 41)) (.bool g2) (.slice p.2.1 q.2.1 r.2.1) (.slice p.2.2 q.2.2 r.2.2) 41); (have sz : (w1.alloc (.cells #[.bool g1, .slice p.1.1 q.1.1 r.1.1, .slice p.1.2 q.1.2 r.1.2] 41)).heap.size = w1.heap.size + 1 := World.size_alloc _ _); (rw [sz] at KG); (have kf0 := KF.c0); (have kf1 := KF.c1); (have kf2 := KF.c2); (have kg0 := KG.c0); (have kg1 := KG.c1); (have kg2 := KG.c2)))
    | (go_at_call 14; go_must (refine (CC _ p.1 q.1 r.1 p.2 q.2 r.2 n1.1 n1.2 n2.1 n2.2).mono ?_; rintro e w9 ⟨rfl, b9⟩; (have b5 := b9); (have KR2 := KR1.below b5 KR1.lt); (have m0 := KR2.at 0); (have m1 := KR2.at 1); (have m2 := KR2.free 0); (have m3 := KR2.free 1); (simp at m0 m1)))
    | fail)
  have kE : Blk ((w9.setCell ⟨w.heap.size + 1 + 1, 0, none⟩ (.string ⟨#[]⟩)).setCell ⟨w.heap.size + 1 + 1, 1, none⟩ (.string ⟨#[]⟩)) (w.heap.size + 1 + 1) #[.string ⟨#[]⟩, .string ⟨#[]⟩] 23 := bput (bput KR2 0 _) 1 _
  have bE : Below w.heap.size w ((w9.setCell ⟨w.heap.size + 1 + 1, 0, none⟩ (.string ⟨#[]⟩)).setCell ⟨w.heap.size + 1 + 1, 1, none⟩ (.string ⟨#[]⟩)) := ((bel' pB b5).setCell (p := ⟨w.heap.size + 1 + 1, 0, none⟩) (by show w.heap.size ≤ w.heap.size + 1 + 1; omega) _).setCell (p := ⟨w.heap.size + 1 + 1, 1, none⟩) (by show w.heap.size ≤ w.heap.size + 1 + 1; omega) _
  generalize (w9.setCell ⟨w.heap.size + 1 + 1, 0, none⟩ (.string ⟨#[]⟩)).setCell ⟨w.heap.size + 1 + 1, 1, none⟩ (.string ⟨#[]⟩) = WE at *
  have r0 := kE.at 0
  have r1 := kE.at 1
  simp at r0 r1
  exact bodyPost_ret (v := .tuple #[.agg #[.string ⟨#[]⟩, .string ⟨#[]⟩], .int .i64 1]) (by simp [results, Tryz.results6, go_sem, r0, r1]) rfl ⟨rfl, bE⟩
end Go.Proofs.YtpmgbmafibkgnaaGreatDoor.Mo

namespace Go.Proofs.YtpmgbmafibkgnaaGreatDoor.Mo
open Go.RowKit Fu Tn Go.Lib Dc

theorem SI.init {M ln ld hn hd : Nat} (a1 : 0 < ln) (a2 : 0 < ld) (a3 : 0 < hn) (a4 : 0 < hd) (le : ln * hd ≤ hn * ld) (b1 : ln ≤ M) (b2 : ld ≤ M) (b3 : hn ≤ M) (b4 : hd ≤ M) : SI M ln ld hn hd 1 0 0 1 :=
  ⟨a1, a2, a3, a4, le, b1, b2, b3, b4, by omega, by omega, by omega, by omega⟩
theorem smp_init {ln ld hn hd : Nat} (l0 : 0 < ld) (h0 : 0 < hd) (le : ln * hd ≤ hn * ld) : smp (ld + hd) ln ld hn hd 1 0 0 1 = ((sm (ld + hd) ln ld hn hd).1, (sm (ld + hd) ln ld hn hd).2) := by
  rw [smp_sm (ld + hd) ln ld hn hd 1 0 0 1 (by omega) l0 h0 le (Nat.le_refl _)]
  simp
/-- simplestAbove of two numbers above nought. -/
theorem above_p {r s : Rat} {m : Nat} (r0 : 0 < r) (le : r ≤ s) (h1 : PS r m) (h2 : PS s m) (hm : m < 80) (a a' : Option Addr × Option Addr) (l c l' c' : Nat × Nat) (w : World) (k1 : Nn w a.1 l.1 c.1 (r.num.natAbs : Int)) (k2 : Nn w a.2 l.2 c.2 (r.den : Int)) (k3 : Nn w a'.1 l'.1 c'.1 (s.num.natAbs : Int)) (k4 : Nn w a'.2 l'.2 c'.2 (s.den : Int)) :
    Calls Tryz.prog 32 #[.agg #[.bool false, .slice a.1 l.1 c.1, .slice a.2 l.2 c.2], .agg #[.bool false, .slice a'.1 l'.1 c'.1, .slice a'.2 l'.2 c'.2]] w fun e w' => ∃ (a : Option Addr × Option Addr) (l c : Nat × Nat), e = .returned (.agg #[.bool false, .slice a.1 l.1 c.1, .slice a.2 l.2 c.2]) ∧ (Nn w' a.1 l.1 c.1 ((b1 r s).num.natAbs : Int) ∧ Nn w' a.2 l.2 c.2 ((b1 r s).den : Int)) ∧ Below w.heap.size w w' := by
  have n0 := pos_num r0
  have m0 := pos_num (show 0 < s by grind)
  have le' := (le_nat (by omega) (by omega)).1 le
  obtain ⟨q1, q2, _⟩ := b1_spec r0 le
  have d1 := Nat.pos_of_ne_zero r.den_nz
  have d2 := Nat.pos_of_ne_zero s.den_nz
  have e1 : (b1 r s).num.natAbs = (sm (r.den + s.den) r.num.natAbs r.den s.num.natAbs s.den).1 := by rw [q1]; simp
  rw [e1, q2]
  have hM : ((max (max r.num.natAbs r.den) (max s.num.natAbs s.den) : Nat) : Int) < pw m := by
    have := h1.1; have := h1.2; have := h2.1; have := h2.2
    omega
  exact simplestAbove_n ⟨a.1, l.1, c.1⟩ ⟨a.2, l.2, c.2⟩ ⟨a'.1, l'.1, c'.1⟩ ⟨a'.2, l'.2, c'.2⟩ _ _ _ _ _ _ _ m w k1 k2 k3 k4 hM hm (SI.init (by omega) d1 (by omega) d2 le' (by omega) (by omega) (by omega) (by omega)) (smp_init d1 d2 le')
theorem psg_le {r : Rat} (h : r ≤ 0) : psg r ≤ 0 := by
  have : r.num ≤ 0 := by rw [Rat.le_iff] at h; simpa using h
  unfold psg; split <;> (try split) <;> omega
theorem psg_ge {r : Rat} (h : 0 ≤ r) : psg r ≥ 0 := by
  have : 0 ≤ r.num := by rw [Rat.le_iff] at h; simpa using h
  unfold psg; split <;> (try split) <;> omega
theorem neg_num {r : Rat} (h : r < 0) : r.num < 0 := by rw [Rat.lt_iff] at h; simpa using h
/-- Simplest of two numbers. -/
theorem simplest_p {r s : Rat} {m : Nat} (le : r ≤ s) (h1 : PS r m) (h2 : PS s m) (hm : m < 80) (a a' : Option Addr × Option Addr) (l c l' c' : Nat × Nat) (w : World) (k1 : Nn w a.1 l.1 c.1 (r.num.natAbs : Int)) (k2 : Nn w a.2 l.2 c.2 (r.den : Int)) (k3 : Nn w a'.1 l'.1 c'.1 (s.num.natAbs : Int)) (k4 : Nn w a'.2 l'.2 c'.2 (s.den : Int)) :
    Calls Tryz.prog 15 #[.agg #[.bool (decide (r.num < 0)), .slice a.1 l.1 c.1, .slice a.2 l.2 c.2], .agg #[.bool (decide (s.num < 0)), .slice a'.1 l'.1 c'.1, .slice a'.2 l'.2 c'.2]] w fun e w' => ∃ y, e = .returned y ∧ PF w' y (bt r s) ∧ Below w.heap.size w w' := by
  have P1 : ∀ x, Below w.heap.size w x → PF x (.agg #[.bool (decide (r.num < 0)), .slice a.1 l.1 c.1, .slice a.2 l.2 c.2]) r := fun x b => ⟨_, _, _, _, _, _, rfl, k1.grow b, k2.grow b⟩
  have P2 : ∀ x, Below w.heap.size w x → PF x (.agg #[.bool (decide (s.num < 0)), .slice a'.1 l'.1 c'.1, .slice a'.2 l'.2 c'.2]) s := fun x b => ⟨_, _, _, _, _, _, rfl, k3.grow b, k4.grow b⟩
  by_cases c1 : r ≤ 0 ∧ 0 ≤ s
  · have e : bt r s = 0 := by unfold bt; rw [if_pos c1]
    rw [e]
    refine (Simplest_zero ⟨a.1, l.1, c.1⟩ ⟨a.2, l.2, c.2⟩ ⟨a'.1, l'.1, c'.1⟩ ⟨a'.2, l'.2, c'.2⟩ _ _ (psg r) (psg s) 0 1 w (psg_le c1.1) (psg_ge c1.2) (fun x b => Sign_p _ r x (P1 x b)) (fun x b => Sign_p _ s x (P2 x b)) ?_).mono ?_
    · intro x
      refine (OfInt_p 0 x (by decide) (by decide)).mono ?_
      rintro e w' ⟨v, rfl, ⟨p1, q1, z1, p2, q2, z2, rfl, n1, n2⟩, b⟩
      exact ⟨(p1, p2), (q1, q2), (z1, z2), rfl, ⟨n1, n2⟩, b⟩
    · rintro e w' ⟨p, q, z, rfl, ⟨n1, n2⟩, b⟩
      exact ⟨_, rfl, ⟨p.1, q.1, z.1, p.2, q.2, z.2, rfl, n1, n2⟩, b⟩
  · by_cases c2 : s < 0
    · have e : bt r s = -(b1 (-s) (-r)) := by unfold bt; rw [if_neg c1, if_pos c2]
      have r0 : r < 0 := by grind
      rw [e]
      obtain ⟨_, _, x3, _⟩ := b1_spec (r := -s) (s := -r) (by grind) (by grind)
      have g1 : decide (r.num < 0) = true := decide_eq_true (neg_num r0)
      have g2 : decide (s.num < 0) = true := decide_eq_true (neg_num c2)
      rw [g1] at P1 ⊢
      rw [g2] at P2 ⊢
      have s1 : psg r = -1 := by unfold psg; rw [if_pos (neg_num r0)]
      have s2 : psg s = -1 := by unfold psg; rw [if_pos (neg_num c2)]
      refine (Simplest_neg ⟨a.1, l.1, c.1⟩ ⟨a.2, l.2, c.2⟩ ⟨a'.1, l'.1, c'.1⟩ ⟨a'.2, l'.2, c'.2⟩ ((b1 (-s) (-r)).num.natAbs : Int) ((b1 (-s) (-r)).den : Int) w (fun x b => by have := Sign_p _ r x (P1 x b); rw [s1] at this; exact this) (fun x b => by have := Sign_p _ s x (P2 x b); rw [s2] at this; exact this)
        (fun x => FNeg_low _ _ _ _ _ _ x) (fun x => FNeg_low _ _ _ _ _ _ x) ?_ ?_).mono ?_
      · intro x b
        have en : ∀ t : Rat, ((-t).num.natAbs : Int) = (t.num.natAbs : Int) := fun t => by rw [Rat.neg_num, Int.natAbs_neg]
        exact above_p (r := -s) (s := -r) (by grind) (by grind) h2.neg h1.neg hm a' a l' c' l c x (by rw [en]; exact k3.grow b) (by rw [Rat.neg_den]; exact k4.grow b) (by rw [en]; exact k1.grow b) (by rw [Rat.neg_den]; exact k2.grow b)
      · intro x p q z n1
        refine (FNeg_high p.1 p.2 q.1 z.1 q.2 z.2 x).mono ?_
        rintro e w' ⟨rfl, b⟩
        rw [n1.len, decide_eq_false (by omega)]
        exact ⟨rfl, b⟩
      · rintro e w' ⟨p, q, z, rfl, ⟨n1, n2⟩, b⟩
        refine ⟨_, rfl, ⟨p.1, q.1, z.1, p.2, q.2, z.2, ?_, by rw [Rat.neg_num, Int.natAbs_neg]; exact n1, by rw [Rat.neg_den]; exact n2⟩, b⟩
        rw [Rat.neg_num, decide_eq_true (by omega)]
    · have e : bt r s = b1 r s := by unfold bt; rw [if_neg c1, if_neg c2]
      have r0 : 0 < r := by grind
      have s0 : 0 < s := by grind
      rw [e]
      obtain ⟨_, _, x3, _⟩ := b1_spec r0 le
      have n0 := pos_num r0
      have m0 := pos_num s0
      rw [decide_eq_false (show ¬ r.num < 0 by omega), decide_eq_false (show ¬ s.num < 0 by omega)]
      refine (Simplest_walk ⟨a.1, l.1, c.1⟩ ⟨a.2, l.2, c.2⟩ ⟨a'.1, l'.1, c'.1⟩ ⟨a'.2, l'.2, c'.2⟩ ((b1 r s).num.natAbs : Int) ((b1 r s).den : Int) w (fun y b => Sign_one (k1.grow b) (by omega)) (fun y b => above_p r0 le h1 h2 hm a a' l c l' c' y (k1.grow b) (k2.grow b) (k3.grow b) (k4.grow b))).mono ?_
      rintro e w' ⟨p, q, z, rfl, ⟨n1, n2⟩, b⟩
      exact ⟨_, rfl, ⟨p.1, q.1, z.1, p.2, q.2, z.2, by rw [decide_eq_false (by omega)], n1, n2⟩, b⟩
theorem bt_ps {r s : Rat} {m : Nat} (le : r ≤ s) (h : PS r m) : PS (bt r s) m := by
  obtain ⟨_, _, k⟩ := bt_spec le
  obtain ⟨k1, k2⟩ := k r (by grind) le
  have := h.1
  have := h.2
  exact ⟨by omega, by omega⟩
/-- Between of two numbers, the first not above the second. -/
theorem between_c {r s : Rat} {m : Nat} (le : r ≤ s) (h1 : PS r m) (h2 : PS s m) (hm : m < 80) (W : World) (G : Gw W) :
    Calls Tryz.prog 6 #[wrt r, wrt s] W fun x w' => x = .returned (.tuple #[wrt (bt r s), .int .i64 0]) ∧ Below W.heap.size W w' := by
  have hr := h1.rdy (show m ≤ 200 by omega)
  have hs := h2.rdy (show m ≤ 200 by omega)
  have P := bt_ps le h1
  have k0 : ¬ pcm r s > 0 := by unfold pcm; split <;> (try split) <;> first | omega | grind
  have := Between_raw (tn r) (td r) (tn s) (td s) (tn (bt r s)) (td (bt r s)) _ _ _ _ _ _ 0 (pcm r s) (bt r s) W k0 (fun x _ => readTwo_p r s x hr.1 hr.2 hs.1 hs.2)
    (fun x a l c a' l' c' k1 k2 k3 k4 => Cmp_p _ _ r s m m x ⟨_, _, _, _, _, _, rfl, k1, k2⟩ ⟨_, _, _, _, _, _, rfl, k3, k4⟩ h1 h2 hm hm)
    (fun x a l c a' l' c' k1 k2 k3 k4 => simplest_p le h1 h2 hm a a' l c l' c' x k1 k2 k3 k4)
    (fun x y hy b => by
      have := Ratio_any y (bt r s) x hy (P.mono (by omega)) (G.grow b)
      rw [P.short (by omega)] at this
      exact this)
  exact this
theorem between_n {r s : Rat} {m : Nat} (gt : s < r) (h1 : PS r m) (h2 : PS s m) (hm : m < 80) (W : World) :
    Calls Tryz.prog 6 #[wrt r, wrt s] W fun x w' => x = .returned (.tuple #[.agg #[.string ⟨#[]⟩, .string ⟨#[]⟩], .int .i64 1]) ∧ Below W.heap.size W w' := by
  have hr := h1.rdy (show m ≤ 200 by omega)
  have hs := h2.rdy (show m ≤ 200 by omega)
  have k0 : pcm r s > 0 := by unfold pcm; rw [if_neg (by grind), if_pos gt]; decide
  exact Between_no (tn r) (td r) (tn s) (td s) _ _ _ _ _ _ (pcm r s) W k0 (fun x _ => readTwo_p r s x hr.1 hr.2 hs.1 hs.2)
    (fun x a l c a' l' c' k1 k2 k3 k4 => Cmp_p _ _ r s m m x ⟨_, _, _, _, _, _, rfl, k1, k2⟩ ⟨_, _, _, _, _, _, rfl, k3, k4⟩ h1 h2 hm hm)
end Go.Proofs.YtpmgbmafibkgnaaGreatDoor.Mo
