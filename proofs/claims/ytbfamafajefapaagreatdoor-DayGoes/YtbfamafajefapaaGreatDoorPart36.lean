import Derived.Test.YtbfamafajefapaaGreatDoorPart35

namespace Go.Proofs.YtbfamafajefapaaGreatDoor.Mo
open Go.RowKit Fu Tn Go.Lib

/-- How many binary digits. -/
def nb (V : Nat) : Nat := if V = 0 then 0 else V.log2 + 1
theorem nb_eq {V L : Nat} (h1 : V < 2 ^ L) (h2 : L = 0 ∨ 2 ^ (L - 1) ≤ V) : L = nb V := by
  unfold nb
  by_cases c : V = 0
  · rw [if_pos c]
    rcases h2 with h | h
    · exact h
    · have := Nat.two_pow_pos (L - 1)
      omega
  · rw [if_neg c]
    rcases h2 with h | h
    · subst h; simp at h1; omega
    · have := (Nat.log2_eq_iff (k := L - 1) c).2 ⟨h, by
        by_cases e : L = 0
        · subst e; simp at h1; omega
        · rw [Nat.sub_add_cancel (by omega)]; exact h1⟩
      by_cases e : L = 0
      · subst e; simp at h1; omega
      · omega
theorem BitLen_n {a : Option Addr} {l c : Nat} {V : Nat} {x : World} (h : Nn x a l c V) {m : Nat} (hV : (V : Int) < pw m) (hm : m ≤ 1000000) :
    Calls Tryz.prog 158 #[.agg #[.slice a l c]] x fun e w' => e = .returned (.int .i64 (nb V)) ∧ Below x.heap.size x w' := by
  obtain ⟨xs, r, n, v⟩ := h
  have := len_of r.1 n (by rw [v]; exact hV)
  refine (BitLen_any _ xs x r n (by omega)).mono ?_
  rintro e w' ⟨L, rfl, h1, h2, _, b⟩
  rw [v] at h1 h2
  have e : L = nb V := nb_eq (by exact_mod_cast h1) (h2.imp id (fun h => by exact_mod_cast h))
  exact ⟨by rw [← e], b⟩
theorem nb_le {V k : Nat} (h : V < 2 ^ k) : nb V ≤ k := by
  unfold nb
  by_cases c : V = 0
  · rw [if_pos c]; omega
  · rw [if_neg c]
    have := (Nat.log2_lt (k := k) c).2 h
    omega
/-- An exact number as it is written. -/
def wrt (r : Rat) : Value := .agg #[.string (sB (sg (decide (r.num < 0)) (decDigits r.num.natAbs))), .string (sB (decDigits r.den))]
theorem dec20 {V : Nat} (h : V < 18446744073709551616) : (decDigits V).length ≤ 20 := by
  rw [decDigits_length]
  exact _root_.Dc.nDigits_le (n := 20) (by decide) (by omega)
set_option maxRecDepth 100000 in
set_option maxHeartbeats 800000 in
/-- Ratio of a fraction both of whose parts have one word. -/
theorem Ratio_one (v : Value) (r : Rat) (w : World) (h : PF w v r) (hs : PS r 1) (G : Gw w) :
    Calls Tryz.prog 54 #[v] w fun e w' => e = .returned (.tuple #[wrt r, .int .i64 0]) ∧ Below w.heap.size w w' := by
  obtain ⟨a, l, c, a', l', c', rfl, k1, k2⟩ := h
  have p1 : pw 1 = 18446744073709551616 := by decide
  have v1 : r.num.natAbs < 18446744073709551616 := by have := hs.1; omega
  have v2 : r.den < 18446744073709551616 := by have := hs.2; omega
  have WR : ∀ x, Below w.heap.size w x → Calls Tryz.prog 119 #[.bool (decide (r.num < 0)), .agg #[.slice a l c], .agg #[.slice a' l' c']] x fun e w' => e = .returned (.tuple #[wrt r, .int .i64 0]) ∧ Below x.heap.size x w' := fun x b =>
    Write_walk _ a a' l c l' c' _ _ _ (nb r.num.natAbs) (nb r.den) x (by have := nb_le (k := 64) v1; omega) (by have := nb_le (k := 64) v2; omega)
      (by have := dec20 v1; rw [show ByteArray.size ⟨(decDigits r.num.natAbs).toArray⟩ = _ from sB_size _]; omega) (by have := dec20 v2; rw [sB_size]; omega)
      (fun y b' => Text_one a l c _ y (k1.grow (bel' b b')) v1 (G.grow (bel' b b'))) (fun y b' => Text_one a' l' c' _ y (k2.grow (bel' b b')) v2 (G.grow (bel' b b')))
      (fun y b' => BitLen_n (k1.grow (bel' b b')) hs.1 (by decide)) (fun y b' => BitLen_n (k2.grow (bel' b b')) hs.2 (by decide))
      (fun y => WSign_any _ _ y (by have := dec20 v1; omega))
  unfold wrt at *
  generalize sB (sg (decide (r.num < 0)) (decDigits r.num.natAbs)) = s at *
  generalize sB (decDigits r.den) = t at *
  generalize decide (r.num < 0) = g at *
  clear k1 k2 hs v1 v2 p1 G
  have K0 := (Rb.new w (.bool g) (.slice a l c) (.slice a' l' c') 73).alloc (.cells #[.string ⟨#[]⟩, .string ⟨#[]⟩] 23)
  have KR := Blk.new (w.alloc (.cells #[.bool g, .slice a l c, .slice a' l' c'] 73)) #[.string ⟨#[]⟩, .string ⟨#[]⟩] 23
  simp only [World.size_alloc] at KR
  have pr : Below w.heap.size w ((w.alloc (.cells #[.bool g, .slice a l c, .slice a' l' c'] 73)).alloc (.cells #[.string ⟨#[]⟩, .string ⟨#[]⟩] 23)) := ((Below.refl _ _).alloc (Nat.le_refl _) _).alloc (by simp) _
  have c0 := K0.c0
  have c1 := K0.c1
  have c2 := K0.c2
  go_enter Tryz.func54, Tryz.ntmps54
  go_wp2_with (first
    | (go_at_call 119; refine (WR _ pr).mono ?_; rintro e w1 ⟨rfl, b1⟩; have p1 := bel' pr b1; have KR1 := KR.below b1 KR.lt; have kr0 := KR1.at 0; have kr1 := KR1.at 1; have kf0 := KR1.free 0; have kf1 := KR1.free 1; simp at kr0 kr1)
    | fail)
  have KE := bput (bput KR1 0 (.string s)) 1 (.string t)
  have bE := (p1.setCell (p := ⟨w.heap.size + 1, 0, none⟩) (show w.heap.size ≤ w.heap.size + 1 by omega) (.string s)).setCell (p := ⟨w.heap.size + 1, 1, none⟩) (show w.heap.size ≤ w.heap.size + 1 by omega) (.string t)
  generalize (w1.setCell ⟨w.heap.size + 1, 0, none⟩ (.string s)).setCell ⟨w.heap.size + 1, 1, none⟩ (.string t) = WE at *
  have z0 := KE.at 0
  have z1 := KE.at 1
  simp at z0 z1
  exact bodyPost_ret (v := .tuple #[.agg #[.string s, .string t], .int .i64 0]) (by simp [results, Tryz.results54, go_sem, z0, z1]) rfl ⟨rfl, bE⟩
end Go.Proofs.YtbfamafajefapaaGreatDoor.Mo

namespace Go.Proofs.YtbfamafajefapaaGreatDoor.Mo
open Go.RowKit Fu Tn Go.Lib

theorem quot_small (p q : Int) (hq : q ≠ 0) (hp : p.natAbs < 18446744073709551616) (hq' : q.natAbs < 18446744073709551616) : PS ((p : Rat) * ((q : Rat))⁻¹) 1 := by
  have q0 : (q : Rat) ≠ 0 := by simpa using hq
  obtain ⟨i1, i2, i3⟩ := inv_num (q : Rat) q0
  obtain ⟨t1, t2, _⟩ := times_low (p : Rat) ((q : Rat))⁻¹ _ _ rfl rfl
  have p1 : pw 1 = 18446744073709551616 := by decide
  have n1 : ((p : Rat)).num = p := rfl
  have d1 : ((p : Rat)).den = 1 := rfl
  have n2 : ((q : Rat)).num = q := rfl
  have d2 : ((q : Rat)).den = 1 := rfl
  rw [i2, i3, n1, d1, n2, d2] at t1 t2
  have g : (Int.gcd ((1 : Nat) : Int) ((1 : Nat) : Int) : Int) = 1 := by decide
  rw [g] at t1 t2
  unfold PS
  rw [t1, t2, p1]
  have a := Int.ediv_le_self (Int.gcd (p.natAbs : Int) (q.natAbs : Int) : Int) (show (0 : Int) ≤ (p.natAbs : Int) by omega)
  have b := Int.ediv_le_self (Int.gcd (p.natAbs : Int) (q.natAbs : Int) : Int) (show (0 : Int) ≤ (q.natAbs : Int) by omega)
  constructor
  · rw [show ((1 : Nat) : Int) / 1 = 1 by decide, Int.mul_one]; omega
  · rw [show ((1 : Nat) : Int) / 1 = 1 by decide, Int.one_mul]; omega
theorem int_ps (k : Int) (h : k.natAbs < 18446744073709551616) : PS (k : Rat) 1 := by
  have p1 : pw 1 = 18446744073709551616 := by decide
  have n1 : ((k : Rat)).num = k := rfl
  have d1 : ((k : Rat)).den = 1 := rfl
  unfold PS
  rw [n1, d1, p1]
  exact ⟨by omega, by decide⟩
theorem inv_ps {r : Rat} {m : Nat} (h : PS r m) (h0 : r ≠ 0) : PS r⁻¹ m := by
  obtain ⟨_, i2, i3⟩ := inv_num r h0
  unfold PS
  rw [i2, i3]
  exact ⟨h.2, h.1⟩
set_option maxRecDepth 100000 in
set_option maxHeartbeats 1600000 in
/-- ratio.Of of two ints. -/
theorem Of_p (p q : Int) (w : World) (hp0 : -9223372036854775807 ≤ p) (hp1 : p ≤ 9223372036854775807) (hq0 : -9223372036854775807 ≤ q) (hq1 : q ≤ 9223372036854775807) (hq : q ≠ 0) (G : Gw w) :
    Calls Tryz.prog 50 #[.int .i64 p, .int .i64 q] w fun e w' => e = .returned (.tuple #[wrt ((p : Rat) / (q : Rat)), .int .i64 0]) ∧ Below w.heap.size w w' := by
  have q0 : (q : Rat) ≠ 0 := by simpa using hq
  have hqb : (q == 0) = false := by simpa using hq
  have O1 := fun x => OfInt_p p x hp0 hp1
  have O2 := fun x => OfInt_p q x hq0 hq1
  have IV := fun v x h => Inverse_p v (q : Rat) x h q0
  have TM := fun v1 v2 x h1 h2 => Times_p v1 v2 (p : Rat) ((q : Rat))⁻¹ 1 1 x h1 h2 (int_ps p (by omega)) (inv_ps (int_ps q (by omega)) q0) ⟨by omega, by decide, by decide⟩
  have RT := fun v x h g => Ratio_one v ((p : Rat) * ((q : Rat))⁻¹) x h (quot_small p q hq (by omega) (by omega)) g
  rw [Rat.div_def]
  have WF : ∃ s t, wrt ((p : Rat) * ((q : Rat))⁻¹) = .agg #[.string s, .string t] := ⟨_, _, rfl⟩
  obtain ⟨s, t, e⟩ := WF
  rw [e] at RT ⊢
  generalize (p : Rat) * ((q : Rat))⁻¹ = z at *
  generalize ((q : Rat))⁻¹ = qi at *
  generalize (p : Rat) = pr at *
  generalize (q : Rat) = qr at *
  clear e q0 hp0 hp1 hq0 hq1 hq
  have KR := Blk.new w #[.string ⟨#[]⟩, .string ⟨#[]⟩] 23
  have pr0 : Below w.heap.size w (w.alloc (.cells #[.string ⟨#[]⟩, .string ⟨#[]⟩] 23)) := (Below.refl _ _).alloc (Nat.le_refl _) _
  go_enter Tryz.func50, Tryz.ntmps50
  go_wp2_with (first
    | (go_at_call 54; refine (RT _ _ f4 (G.grow p4)).mono ?_; rintro e w5 ⟨rfl, b5⟩; have p5 := bel' p4 b5; have KR5 := KR4.below b5 KR4.lt; have kr0 := KR5.at 0; have kr1 := KR5.at 1; have kf0 := KR5.free 0; have kf1 := KR5.free 1; simp at kr0 kr1)
    | (go_at_call 36; refine (TM _ _ _ (f1.grow (bel' b2 b3)) f3).mono ?_; rintro e w4 ⟨v4, rfl, f4, b4⟩; have p4 := bel' p3 b4; have KR4 := KR3.below b4 KR3.lt)
    | (go_at_call 41; refine (IV _ _ f2).mono ?_; rintro e w3 ⟨v3, rfl, f3, b3⟩; have p3 := bel' p2 b3; have KR3 := KR2.below b3 KR2.lt)
    | (go_at_call 35; have q := b1; refine (O2 _).mono ?_; rintro e w2 ⟨v2, rfl, f2, b2⟩; have p2 := bel' p1 b2; have KR2 := KR1.below b2 KR1.lt)
    | (go_at_call 35; refine (O1 _).mono ?_; rintro e w1 ⟨v1, rfl, f1, b1⟩; have p1 := bel' pr0 b1; have KR1 := KR.below b1 KR.lt)
    | fail)
  have KE := bput (bput KR5 0 (.string s)) 1 (.string t)
  have bE := (p5.setCell (p := ⟨w.heap.size, 0, none⟩) (Nat.le_refl _) (.string s)).setCell (p := ⟨w.heap.size, 1, none⟩) (Nat.le_refl _) (.string t)
  generalize (w5.setCell ⟨w.heap.size, 0, none⟩ (.string s)).setCell ⟨w.heap.size, 1, none⟩ (.string t) = WE at *
  have z0 := KE.at 0
  have z1 := KE.at 1
  simp at z0 z1
  exact bodyPost_ret (v := .tuple #[.agg #[.string s, .string t], .int .i64 0]) (by simp [results, Tryz.results50, go_sem, z0, z1]) rfl ⟨rfl, bE⟩
end Go.Proofs.YtbfamafajefapaaGreatDoor.Mo
