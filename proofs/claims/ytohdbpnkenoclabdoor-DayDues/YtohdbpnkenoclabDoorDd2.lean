import Derived.Test.YtohdbpnkenoclabDoorDd1
namespace Go.Proofs.YtohdbpnkenoclabDoor.Dy
open Go.RowKit Tn
/-- The k-th due. -/
def du (y m d E : Int) (k : Nat) : Int × Int × Int := ((mo y m + E * k) / 12 + 1, (mo y m + E * k) % 12 + 1, min d (mk (mo y m + E * k)))
set_option maxHeartbeats 800000 in
theorem Dues_w0 (y m d E c : Int) (w : World) (G : Gl w) (g : good y m d = false) : Calls Tryd.prog 11 #[dt y m d, .int .i64 E, .int .i64 c] w fun x w' => x = .returned (.tuple #[.slice none 0 0, .int .i64 70]) ∧ Below w.heap.size w w' := by
  have Ka0 := Blk.new w #[.int .i64 y, .int .i64 m, .int .i64 d] 23
  have pr := bl (w := w) #[.int .i64 y, .int .i64 m, .int .i64 d] 23
  have G0 := (G).alloc (.cells #[.int .i64 y, .int .i64 m, .int .i64 d] 23)
  have C := Check_any y m d
  rw [g] at C
  clear G g
  unfold dt er at *
  go_enter Tryd.func11, Tryd.ntmps11
  go_wp2_with (first
    | (go_at_call 14; refine (C _ G0).mono ?_; rintro x w1 ⟨rfl, b1⟩; have Ka1 := Ka0.below b1 Ka0.lt; have ka10 := Ka1.c0; have ka11 := Ka1.c1; have ka12 := Ka1.c2; have ka1l := Ka1.lt; have G1 := G0.grow b1; have p1 := belT pr b1)
    | fail)
  go_ret2
  exact ⟨rfl, p1⟩
set_option maxHeartbeats 800000 in
theorem Dues_w1 (y m d E c : Int) (w : World) (G : Gl w) (g : good y m d = true) (h : E < 1 ∨ 1200 < E ∨ c < 0 ∨ 4096 < c) : Calls Tryd.prog 11 #[dt y m d, .int .i64 E, .int .i64 c] w fun x w' => x = .returned (.tuple #[.slice none 0 0, .int .i64 1]) ∧ Below w.heap.size w w' := by
  have Ka0 := Blk.new w #[.int .i64 y, .int .i64 m, .int .i64 d] 23
  have pr := bl (w := w) #[.int .i64 y, .int .i64 m, .int .i64 d] 23
  have G0 := (G).alloc (.cells #[.int .i64 y, .int .i64 m, .int .i64 d] 23)
  have C := Check_any y m d
  rw [g] at C
  clear G g
  unfold dt er at *
  by_cases h1 : E < 1
  · clear h
    go_enter Tryd.func11, Tryd.ntmps11
    go_wp2_with (first
      | (go_at_call 14; refine (C _ G0).mono ?_; rintro x w1 ⟨rfl, b1⟩; have Ka1 := Ka0.below b1 Ka0.lt; have ka10 := Ka1.c0; have ka11 := Ka1.c1; have ka12 := Ka1.c2; have ka1l := Ka1.lt; have G1 := G0.grow b1; have p1 := belT pr b1)
      | fail)
    go_ret2
    exact ⟨rfl, p1⟩
  by_cases h2 : 1200 < E
  · clear h
    go_enter Tryd.func11, Tryd.ntmps11
    go_wp2_with (first
      | (go_at_call 14; refine (C _ G0).mono ?_; rintro x w1 ⟨rfl, b1⟩; have Ka1 := Ka0.below b1 Ka0.lt; have ka10 := Ka1.c0; have ka11 := Ka1.c1; have ka12 := Ka1.c2; have ka1l := Ka1.lt; have G1 := G0.grow b1; have p1 := belT pr b1)
      | fail)
    go_ret2
    exact ⟨rfl, p1⟩
  by_cases h3 : c < 0
  · clear h
    go_enter Tryd.func11, Tryd.ntmps11
    go_wp2_with (first
      | (go_at_call 14; refine (C _ G0).mono ?_; rintro x w1 ⟨rfl, b1⟩; have Ka1 := Ka0.below b1 Ka0.lt; have ka10 := Ka1.c0; have ka11 := Ka1.c1; have ka12 := Ka1.c2; have ka1l := Ka1.lt; have G1 := G0.grow b1; have p1 := belT pr b1)
      | fail)
    go_ret2
    exact ⟨rfl, p1⟩
  · have h4 : 4096 < c := by omega
    clear h
    go_enter Tryd.func11, Tryd.ntmps11
    go_wp2_with (first
      | (go_at_call 14; refine (C _ G0).mono ?_; rintro x w1 ⟨rfl, b1⟩; have Ka1 := Ka0.below b1 Ka0.lt; have ka10 := Ka1.c0; have ka11 := Ka1.c1; have ka12 := Ka1.c2; have ka1l := Ka1.lt; have G1 := G0.grow b1; have p1 := belT pr b1)
      | fail)
    go_ret2
    exact ⟨rfl, p1⟩
set_option maxHeartbeats 1600000 in
theorem Dues_w2 (y m d E : Int) (c : Nat) (w : World) (G : Gl w) (g : good y m d = true) (h1 : 1 ≤ E) (h2 : E ≤ 1200) (h3 : c ≤ 4096) : Calls Tryd.prog 11 #[dt y m d, .int .i64 E, .int .i64 (c : Int)] w fun x w' =>
    ((∀ k : Nat, k < c → mo y m + E * k ≤ 119987) ∧ ∃ r, x = .returned (.tuple #[.slice (some ⟨r, 0, none⟩) c c, .int .i64 0]) ∧ w.heap.size ≤ r ∧ Rw w' r c 0 c (du y m d E) ∧ Below w.heap.size w w') ∨
    ((∃ k : Nat, k < c ∧ 119987 < mo y m + E * k) ∧ x = .returned (.tuple #[.slice none 0 0, .int .i64 1]) ∧ Below w.heap.size w w') := by
  have Ka0 := Blk.new w #[.int .i64 y, .int .i64 m, .int .i64 d] 23
  have pr := bl (w := w) #[.int .i64 y, .int .i64 m, .int .i64 d] 23
  have G0 := (G).alloc (.cells #[.int .i64 y, .int .i64 m, .int .i64 d] 23)
  have C := Check_any y m d
  have MO : Hid (∀ k : Int, 0 ≤ mo y m + E * k → mo y m + E * k ≤ 119987 → ∀ W, Gl W → Calls Tryd.prog 9 #[.agg #[.int .i64 y, .int .i64 m, .int .i64 d], .int .i64 (E * k)] W fun x w' => x = .returned (.tuple #[.agg #[.int .i64 ((mo y m + E * k) / 12 + 1), .int .i64 ((mo y m + E * k) % 12 + 1), .int .i64 (min d (mk (mo y m + E * k)))], .int .i64 0]) ∧ Below W.heap.size W w') := fun k a b => by
    have := Months_any y m d (E * k)
    unfold mns at this
    rw [g, if_pos rfl, if_pos ⟨a, b⟩] at this
    exact this
  have MF : Hid (∀ k : Int, 119987 < mo y m + E * k → ∀ W, Gl W → Calls Tryd.prog 9 #[.agg #[.int .i64 y, .int .i64 m, .int .i64 d], .int .i64 (E * k)] W fun x w' => x = .returned (.tuple #[.agg #[.int .i64 0, .int .i64 0, .int .i64 0], .int .i64 1]) ∧ Below W.heap.size W w') := fun k b => by
    have := Months_any y m d (E * k)
    unfold mns at this
    rw [g, if_pos rfl, if_neg (fun h => absurd h.2 (by omega))] at this
    exact this
  rw [g] at C
  have m0 : 0 ≤ mo y m := by have := good_iff.1 g; unfold mo; omega
  clear G g
  unfold dt er at *
  go_enter Tryd.func11, Tryd.ntmps11
  go_wp2_with (first
    | (go_at_call 14; refine (C _ G0).mono ?_; rintro x w1 ⟨rfl, b1⟩; have Ka1 := Ka0.below b1 Ka0.lt; have ka10 := Ka1.c0; have ka11 := Ka1.c1; have ka12 := Ka1.c2; have ka1l := Ka1.lt; have G1 := G0.grow b1; have p1 := belT pr b1)
    | (at_make; refine wpList_make_dates rfl _ _ rfl c rfl rfl h3 ?_; intro w2 R2 b2; have Ka2 := Ka1.below b2 Ka1.lt; have ka20 := Ka2.c0; have ka21 := Ka2.c1; have ka22 := Ka2.c2; have ka2l := Ka2.lt; have G2 := G1.grow b2; have p2 := belT p1 b2)
    | fail)
  have lr := (R2 (du y m d E)).lt
  have lo : w.heap.size ≤ w1.heap.size := by have := Ka1.lt; omega
  go_loopw [35] (fun t wr => ∃ k : Nat, k ≤ c ∧ t = .int .i64 (k : Int) ∧ (∀ j : Nat, j < k → mo y m + E * j ≤ 119987) ∧ Blk wr w.heap.size #[.int .i64 y, .int .i64 m, .int .i64 d] 23 ∧ Rw wr w1.heap.size c 0 k (du y m d E) ∧ Gl wr ∧ Below w.heap.size w wr) (fun t _ => ((c : Int) - RowKit.intOf t).toNat)
  case atStart => exact ⟨0, by omega, rfl, fun j hj => absurd hj (by omega), Ka2, R2 _, G2, p2⟩
  case round =>
    clear R2 Ka2 G2 p2
    obtain ⟨k, k1, rfl, ok, Ka3, R3, G3, p3⟩ := hrel
    have OK : Hid _ := ok
    clear ok
    have q0 := Ka3.c0
    have q1 := Ka3.c1
    have q2 := Ka3.c2
    by_cases kc : k < c
    · have kc' : (k : Int) < (c : Int) := by omega
      have kn : (0 : Int) ≤ (k : Int) := by omega
      have e1 : IntKind.i64.wrap (E * (k : Int)) = E * (k : Int) := by
        have := Int.mul_le_mul h2 (show (k : Int) ≤ 4096 by omega) kn (by omega)
        have := Int.mul_nonneg (show 0 ≤ E by omega) kn
        exact wrapI _ (by omega) (by omega)
      by_cases o : mo y m + E * k ≤ 119987
      · have M := MO.out k (by have := Int.mul_nonneg (show 0 ≤ E by omega) kn; omega) o
        have D : Hid (du y m d E k = ((mo y m + E * k) / 12 + 1, (mo y m + E * k) % 12 + 1, min d (mk (mo y m + E * k)))) := rfl
        generalize (mo y m + E * (k : Int)) / 12 + 1 = Y at *
        generalize (mo y m + E * (k : Int)) % 12 + 1 = M0 at *
        generalize min d (mk (mo y m + E * (k : Int))) = D0 at *
        have o' : Hid _ := o
        clear o
        go_wp2_with (first
          | (go_at_call 9; refine (M _ G3).mono ?_; rintro x w4 ⟨rfl, b4⟩; have R4 := R3.grow b4; have G4 := G3.grow b4; have Ka4 := Ka3.below b4 Ka3.lt; have p4 := belT p3 b4; obtain ⟨v0, v1, v2, c0, c1, c2⟩ := R4.some kc; have l4 := R4.lt; have f0 := R4.free (k * 3); have f1 := R4.free (k * 3 + 1); have f2 := R4.free (k * 3 + 2))
          | fail)
        have bq := (bset (a := .int .i64 Y) (b := .int .i64 M0) (c := .int .i64 D0) (i := k * 3) (j := k * 3 + 1) (k := k * 3 + 2) p4 lo).alloc (by have := p4.size; simp; omega) (.cells #[.int .i64 Y, .int .i64 M0, .int .i64 D0] 23)
        have bg := bset (a := .int .i64 Y) (b := .int .i64 M0) (c := .int .i64 D0) (i := k * 3) (j := k * 3 + 1) (k := k * 3 + 2) (Below.refl w1.heap.size w4) (Nat.le_refl _)
        have ne : w1.heap.size ≠ w.heap.size := by have := Ka1.lt; omega
        refine ⟨⟨k + 1, by omega, by go_num, fun j hj => ?_, (set3 Ka4 ne).alloc _, (R4.put kc D.out (Nat.zero_le _)).alloc _, (G4.bel bg G1.at).alloc _, bq⟩, by simp [RowKit.intOf]; omega⟩
        by_cases jk : j = k
        · subst jk; exact o'.out
        · exact OK.out j (by omega)
      · replace o : 119987 < mo y m + E * k := by omega
        have M := MF.out k o
        have o' : Hid _ := o
        clear o
        go_wp2_with (first
          | (go_at_call 9; refine (M _ G3).mono ?_; rintro x w4 ⟨rfl, b4⟩; have p4 := belT p3 b4)
          | fail)
        go_ret2
        exact Or.inr ⟨⟨k, kc, o'.out⟩, rfl, belT p4 (bl _ _)⟩
    · go_wp2_with fail
      go_ret2
      exact Or.inl ⟨fun j hj => OK.out j (by omega), _, by rw [show k = c by omega]; rfl, lo, by rw [← show k = c by omega]; rw [show c = k by omega] at R3; exact R3, p3⟩
end Go.Proofs.YtohdbpnkenoclabDoor.Dy
