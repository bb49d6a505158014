import Derived.Test.YtfalncbcomlelaaGreatDoorPart45

namespace Go.Proofs.YtfalncbcomlelaaGreatDoor.Ta
open Go.RowKit Go.Proofs.YtfalncbcomlelaaGreatDoor.Mo

/-- The same, when so many members have been seen. -/
def e2 (q : Nat → Int) (f : Nat) : Nat → Int
  | 0 => 0
  | k + 1 => e2 q f k * 10000000 + (if f < k then al q k else 0)
theorem e2_succ (q : Nat → Int) (f : Nat) : ∀ k, e2 q f (k + 1) = es q f k
  | 0 => by simp [e2, es]
  | k + 1 => by
    show e2 q f (k + 1) * 10000000 + (if f < k + 1 then al q (k + 1) else 0) = _
    rw [e2_succ q f k]; rfl
theorem e2_pw {q : Nat → Int} {L f : Nat} (hq : ∀ k, k < L → 0 ≤ q k ∧ q k ≤ 10000000) (hL : L ≤ 131) : ∀ {k : Nat}, k ≤ L + 1 → e2 q f k < Tn.pw 60
  | 0, _ => by rw [Ip.pw_64]; show (0 : Int) < _; have := Nat.pow_pos (n := 64 * 60) (show 0 < 2 by decide); omega
  | k + 1, h => by rw [e2_succ]; exact es_pw hq hL (by omega)
theorem nn_nil (w : World) : Nn w none 0 0 0 := ⟨[], Rd.nil w, Or.inl rfl, rfl⟩
theorem ten_pw : (10000000 : Int) < Tn.pw 60 := Ip.lt_64 (a := 10000000) (B := 24) (by decide) (by decide)
theorem svput {x : World} {g n k m : Nat} {q : Nat → Int} {b : Option Addr} {l c : Nat} {t : TypeId} (h : Sv x g n k q) (K : Blk x m #[.slice b l c] t) (ne : m ≠ g) (v : Value) : Sv (x.setCell ⟨m, 0, none⟩ v) g n k q := by
  obtain ⟨cs, B, e, ni, f⟩ := h
  refine ⟨cs, bskip B ne 0 v, e, ni, fun i hi => ?_⟩
  obtain ⟨a, l, c, e, h⟩ := f i hi
  exact ⟨a, l, c, e, h.box (Bx.of K)⟩
theorem svlt {x : World} {g n k : Nat} {q : Nat → Int} (h : Sv x g n k q) : g < x.heap.size := by obtain ⟨cs, K, _⟩ := h; exact K.lt
set_option maxRecDepth 100000 in
set_option maxHeartbeats 3200000 in
theorem Expect_e (s : ByteArray) (f : Int) (vr vs : Value) (en ys fr yr : Int) (c : Int) (w : World) (hc : (c != 0) = true) (C : ∀ x, Below w.heap.size w x → Calls Tryz.prog 47 #[.agg #[.string s, .int .i64 f, vr, vs], .agg #[.int .i64 en, .int .i64 ys]] x fun e w' => e = .returned (.tuple #[.slice none 0 0, .int .i64 c]) ∧ Below x.heap.size x w') : Calls Tryz.prog 19 #[.agg #[.string s, .int .i64 f, vr, vs], .agg #[.int .i64 en, .int .i64 ys], .int .i64 fr, .int .i64 yr] w fun e w' => e = .returned (.tuple #[.agg #[.string ⟨#[]⟩, .string ⟨#[]⟩], .int .i64 c]) ∧ Below w.heap.size w w' := by
  have pr : Below w.heap.size w (((w.alloc (.cells #[.string s, .int .i64 f, vr, vs] 46)).alloc (.cells #[.int .i64 en, .int .i64 ys] 48)).alloc (.cells #[.string ⟨#[]⟩, .string ⟨#[]⟩] 23)) := (((Below.refl _ _).alloc (Nat.le_refl _) _).alloc (by simp) _).alloc (by simp; omega) _
  have KR := Blk.new ((w.alloc (.cells #[.string s, .int .i64 f, vr, vs] 46)).alloc (.cells #[.int .i64 en, .int .i64 ys] 48)) #[.string ⟨#[]⟩, .string ⟨#[]⟩] 23
  simp only [World.size_alloc] at KR
  go_enter Tryz.func19, Tryz.ntmps19
  go_wp2_with (first
    | (go_at_call 47; refine (C _ pr).mono ?_; rintro e w1 ⟨rfl, b1⟩; (have K1 := KR.below b1 KR.lt); (have z0 := K1.at 0); (have z1 := K1.at 1); (have y0 := K1.free 0); (have y1 := K1.free 1); (simp at z0 z1))
    | fail)
  have KE := bput (bput K1 0 (.string ⟨#[]⟩)) 1 (.string ⟨#[]⟩)
  have bE := ((bel' pr b1).setCell (p := ⟨w.heap.size + 1 + 1, 0, none⟩) (show w.heap.size ≤ w.heap.size + 1 + 1 by omega) (.string ⟨#[]⟩)).setCell (p := ⟨w.heap.size + 1 + 1, 1, none⟩) (show w.heap.size ≤ w.heap.size + 1 + 1 by omega) (.string ⟨#[]⟩)
  have q0 := KE.at 0
  have q1 := KE.at 1
  simp at q0 q1
  exact bodyPost_ret (v := .tuple #[.agg #[.string ⟨#[]⟩, .string ⟨#[]⟩], .int .i64 c]) (by simp [results, Tryz.results19, go_sem, q0, q1]) rfl ⟨rfl, bE⟩
set_option maxRecDepth 100000 in
set_option maxHeartbeats 3200000 in
theorem Expect_r1 (s : ByteArray) (f : Int) (vr vs : Value) (en ys fr yr : Int) (N : Nat) (q : Nat → Int) (w : World) (h1 : (decide (0 ≤ fr) && decide (fr ≤ 130)) = false) (C : ∀ x, Below w.heap.size w x → Calls Tryz.prog 47 #[.agg #[.string s, .int .i64 f, vr, vs], .agg #[.int .i64 en, .int .i64 ys]] x fun e w' => ∃ g, e = .returned (.tuple #[.slice (some ⟨g, 0, none⟩) N N, .int .i64 0]) ∧ Rc w' g N N q ∧ Below x.heap.size x w') : Calls Tryz.prog 19 #[.agg #[.string s, .int .i64 f, vr, vs], .agg #[.int .i64 en, .int .i64 ys], .int .i64 fr, .int .i64 yr] w fun e w' => e = .returned (.tuple #[.agg #[.string ⟨#[]⟩, .string ⟨#[]⟩], .int .i64 1]) ∧ Below w.heap.size w w' := by
  have pr : Below w.heap.size w (((w.alloc (.cells #[.string s, .int .i64 f, vr, vs] 46)).alloc (.cells #[.int .i64 en, .int .i64 ys] 48)).alloc (.cells #[.string ⟨#[]⟩, .string ⟨#[]⟩] 23)) := (((Below.refl _ _).alloc (Nat.le_refl _) _).alloc (by simp) _).alloc (by simp; omega) _
  have KR := Blk.new ((w.alloc (.cells #[.string s, .int .i64 f, vr, vs] 46)).alloc (.cells #[.int .i64 en, .int .i64 ys] 48)) #[.string ⟨#[]⟩, .string ⟨#[]⟩] 23
  simp only [World.size_alloc] at KR
  have Y1 := fun x => tYears_any fr x
  simp only [h1] at Y1
  have Y2 := fun x => tYears_any yr x
  go_enter Tryz.func19, Tryz.ntmps19
  go_wp2_with (first
    | (go_at_call 47; refine (C _ pr).mono ?_; rintro e w1 ⟨g, rfl, R, b1⟩; (have K1 := KR.below b1 KR.lt); (have z0 := K1.at 0); (have z1 := K1.at 1); (have y0 := K1.free 0); (have y1 := K1.free 1); (simp at z0 z1))
    | (go_at_call 48; refine (Y1 _).mono ?_; rintro e w9 ⟨rfl, hw⟩; subst w9)
    | (go_at_call 48; refine (Y2 _).mono ?_; rintro e w9 ⟨rfl, hw⟩; subst w9)
    | fail)
  have KE := bput (bput K1 0 (.string ⟨#[]⟩)) 1 (.string ⟨#[]⟩)
  have bE := ((bel' pr b1).setCell (p := ⟨w.heap.size + 1 + 1, 0, none⟩) (show w.heap.size ≤ w.heap.size + 1 + 1 by omega) (.string ⟨#[]⟩)).setCell (p := ⟨w.heap.size + 1 + 1, 1, none⟩) (show w.heap.size ≤ w.heap.size + 1 + 1 by omega) (.string ⟨#[]⟩)
  have q0 := KE.at 0
  have q1 := KE.at 1
  simp at q0 q1
  exact bodyPost_ret (v := .tuple #[.agg #[.string ⟨#[]⟩, .string ⟨#[]⟩], .int .i64 1]) (by simp [results, Tryz.results19, go_sem, q0, q1]) rfl ⟨rfl, bE⟩
set_option maxRecDepth 100000 in
set_option maxHeartbeats 3200000 in
theorem Expect_r2 (s : ByteArray) (f : Int) (vr vs : Value) (en ys fr yr : Int) (N : Nat) (q : Nat → Int) (w : World) (h1 : (decide (0 ≤ fr) && decide (fr ≤ 130)) = true) (h2 : (decide (0 ≤ yr) && decide (yr ≤ 130)) = false) (C : ∀ x, Below w.heap.size w x → Calls Tryz.prog 47 #[.agg #[.string s, .int .i64 f, vr, vs], .agg #[.int .i64 en, .int .i64 ys]] x fun e w' => ∃ g, e = .returned (.tuple #[.slice (some ⟨g, 0, none⟩) N N, .int .i64 0]) ∧ Rc w' g N N q ∧ Below x.heap.size x w') : Calls Tryz.prog 19 #[.agg #[.string s, .int .i64 f, vr, vs], .agg #[.int .i64 en, .int .i64 ys], .int .i64 fr, .int .i64 yr] w fun e w' => e = .returned (.tuple #[.agg #[.string ⟨#[]⟩, .string ⟨#[]⟩], .int .i64 1]) ∧ Below w.heap.size w w' := by
  have pr : Below w.heap.size w (((w.alloc (.cells #[.string s, .int .i64 f, vr, vs] 46)).alloc (.cells #[.int .i64 en, .int .i64 ys] 48)).alloc (.cells #[.string ⟨#[]⟩, .string ⟨#[]⟩] 23)) := (((Below.refl _ _).alloc (Nat.le_refl _) _).alloc (by simp) _).alloc (by simp; omega) _
  have KR := Blk.new ((w.alloc (.cells #[.string s, .int .i64 f, vr, vs] 46)).alloc (.cells #[.int .i64 en, .int .i64 ys] 48)) #[.string ⟨#[]⟩, .string ⟨#[]⟩] 23
  simp only [World.size_alloc] at KR
  have Y1 := fun x => tYears_any fr x
  simp only [h1] at Y1
  have Y2 := fun x => tYears_any yr x
  simp only [h2] at Y2
  go_enter Tryz.func19, Tryz.ntmps19
  go_wp2_with (first
    | (go_at_call 47; refine (C _ pr).mono ?_; rintro e w1 ⟨g, rfl, R, b1⟩; (have K1 := KR.below b1 KR.lt); (have z0 := K1.at 0); (have z1 := K1.at 1); (have y0 := K1.free 0); (have y1 := K1.free 1); (simp at z0 z1))
    | (go_at_call 48; refine (Y1 _).mono ?_; rintro e w9 ⟨rfl, hw⟩; subst w9)
    | (go_at_call 48; refine (Y2 _).mono ?_; rintro e w9 ⟨rfl, hw⟩; subst w9)
    | fail)
  have KE := bput (bput K1 0 (.string ⟨#[]⟩)) 1 (.string ⟨#[]⟩)
  have bE := ((bel' pr b1).setCell (p := ⟨w.heap.size + 1 + 1, 0, none⟩) (show w.heap.size ≤ w.heap.size + 1 + 1 by omega) (.string ⟨#[]⟩)).setCell (p := ⟨w.heap.size + 1 + 1, 1, none⟩) (show w.heap.size ≤ w.heap.size + 1 + 1 by omega) (.string ⟨#[]⟩)
  have q0 := KE.at 0
  have q1 := KE.at 1
  simp at q0 q1
  exact bodyPost_ret (v := .tuple #[.agg #[.string ⟨#[]⟩, .string ⟨#[]⟩], .int .i64 1]) (by simp [results, Tryz.results19, go_sem, q0, q1]) rfl ⟨rfl, bE⟩
set_option maxRecDepth 100000 in
set_option maxHeartbeats 3200000 in
theorem Expect_k (s : ByteArray) (f : Int) (vr vs : Value) (en ys : Int) (fr yr N m M1 : Nat) (q : Nat → Int) (D : Int) (T : Rat) (u t : ByteArray) (er : Int) (w : World) (hfr : fr ≤ 130) (hyr : yr ≤ 130) (hN : N ≤ 131) (hm : min (fr + yr) N = m) (hM1 : m + 1 = M1) (hq : ∀ k, k < N → 0 ≤ q k ∧ q k ≤ 10000000) (C : ∀ x, Below w.heap.size w x → Calls Tryz.prog 47 #[.agg #[.string s, .int .i64 f, vr, vs], .agg #[.int .i64 en, .int .i64 ys]] x fun e w' => ∃ g, e = .returned (.tuple #[.slice (some ⟨g, 0, none⟩) N N, .int .i64 0]) ∧ Rc w' g N N q ∧ Below x.heap.size x w')
    (S1 : ∀ x g, Rc x g N N q → Calls Tryz.prog 49 #[.slice (some ⟨g, 0, none⟩) m N] x fun e w' => ∃ g2, e = .returned (.slice (some ⟨g2, 0, none⟩) M1 M1) ∧ x.heap.size ≤ g2 ∧ Sv w' g2 M1 m q ∧ Below x.heap.size x w')
    (P : ∀ x a l c, Nn x a l c 10000000 → Calls Tryz.prog 54 #[.agg #[.slice a l c], .int .i64 m] x fun e w' => ∃ a l c, e = .returned (.agg #[.slice a l c]) ∧ Nn w' a l c D ∧ Below x.heap.size x w')
    (LO : ∀ x a l c a' l' c', Nn x a l c (es q fr m) → Nn x a' l' c' D → Calls Tryz.prog 53 #[.bool false, .agg #[.slice a l c], .agg #[.slice a' l' c']] x (Fa T x))
    (RR : ∀ x v, Below w.heap.size w x → PF x v T → Calls Tryz.prog 25 #[v] x fun e w' => e = .returned (.tuple #[.agg #[.string u, .string t], .int .i64 er]) ∧ Below x.heap.size x w') : Calls Tryz.prog 19 #[.agg #[.string s, .int .i64 f, vr, vs], .agg #[.int .i64 en, .int .i64 ys], .int .i64 (fr : Int), .int .i64 (yr : Int)] w fun e w' => e = .returned (.tuple #[.agg #[.string u, .string t], .int .i64 er]) ∧ Below w.heap.size w w' := by
  have pr : Below w.heap.size w (((w.alloc (.cells #[.string s, .int .i64 f, vr, vs] 46)).alloc (.cells #[.int .i64 en, .int .i64 ys] 48)).alloc (.cells #[.string ⟨#[]⟩, .string ⟨#[]⟩] 23)) := (((Below.refl _ _).alloc (Nat.le_refl _) _).alloc (by simp) _).alloc (by simp; omega) _
  have KR := Blk.new ((w.alloc (.cells #[.string s, .int .i64 f, vr, vs] 46)).alloc (.cells #[.int .i64 en, .int .i64 ys] 48)) #[.string ⟨#[]⟩, .string ⟨#[]⟩] 23
  simp only [World.size_alloc] at KR
  have Y1 := fun x => tYears_any (fr : Int) x
  have Y2 := fun x => tYears_any (yr : Int) x
  simp only [show (decide (0 ≤ (fr : Int)) && decide ((fr : Int) ≤ 130)) = true by rw [← Bool.decide_and]; exact decide_eq_true ⟨by omega, by omega⟩] at Y1
  simp only [show (decide (0 ≤ (yr : Int)) && decide ((yr : Int) ≤ 130)) = true by rw [← Bool.decide_and]; exact decide_eq_true ⟨by omega, by omega⟩] at Y2
  obtain ⟨Z, hZ⟩ : ∃ Z : Int, (fr : Int) + (yr : Int) = Z := ⟨_, rfl⟩
  have w1 : IntKind.i64.wrap ((fr : Int) + (yr : Int)) = Z := by rw [hZ]; exact wrapI _ (by omega) (by omega)
  have w2 : min Z (N : Int) = (m : Int) := by omega
  have mN : m ≤ N := by omega
  have sl := fun g x => slice_hi g 0 N N (m : Int) m rfl mN x
  have HM : Hid (m + 1 = M1) := hM1
  have HZ : Hid (fr + yr < 1000 ∧ m ≤ fr + yr) := ⟨by omega, by omega⟩
  clear hM1 hZ
  go_enter Tryz.func19, Tryz.ntmps19
  go_wp2_with (first
    | (go_at_call 49; (have z := b1); (have alW := (Below.refl w1.heap.size w1).alloc (Nat.le_refl _) (.cells #[.slice none 0 0] 56)); (have K13 := Blk.new w1 #[.slice none 0 0] 56); (refine (S1 _ _ (R.grow alW)).mono ?_); (rintro e w3 ⟨g2, rfl, hg2, SV, b3⟩); (have b4 := bel' alW b3); (have K13 := K13.below b3 K13.lt); (have KR2 := KR1.below b4 KR1.lt); (have p3 := bel' p1 b4))
    | (go_at_call 47; refine (C _ pr).mono ?_; rintro e w1 ⟨g, rfl, R, b1⟩; (have p1 := bel' pr b1); (have KR1 := KR.below b1 KR.lt))
    | (go_at_call 48; refine (Y1 _).mono ?_; rintro e w9 ⟨rfl, hw⟩; subst w9)
    | (go_at_call 48; refine (Y2 _).mono ?_; rintro e w9 ⟨rfl, hw⟩; subst w9)
    | fail)
  have ne2 : w1.heap.size ≠ g2 := by rw [World.size_alloc] at hg2; omega
  have L13 : Hid (w.heap.size + 1 + 1 < w1.heap.size) := KR1.lt
  have B13 : Hid (w1.heap.size < w3.heap.size) := K13.lt
  generalize w1.heap.size = n13 at *
  clear sl R KR1 KR b1 pr p1 C Y1 Y2 hg2
  go_loopw [14, 15, 48] (fun _ _ i wr => ∃ (k : Nat) (a : Option Addr) (l c : Nat), i = .int .i64 k ∧ k ≤ M1 ∧ Blk wr n13 #[.slice a l c] 56 ∧ Nn wr a l c (e2 q fr k) ∧ Sv wr g2 M1 m q ∧ Blk wr (w.heap.size + 1 + 1) #[.string ⟨#[]⟩, .string ⟨#[]⟩] 23 ∧ Below w.heap.size w wr) (fun _ _ i _ => M1 - (RowKit.intOf i).toNat)
  case atStart => exact ⟨0, none, 0, 0, rfl, Nat.zero_le _, K13, nn_nil _, SV, KR2, p3⟩
  case round =>
    clear K13 SV KR2 p3
    obtain ⟨k, a, l, c, rfl, hk, K13, n1, SV, KR, p⟩ := hrel
    by_cases lt : k < M1
    · have mM := HM.out
      have y9 : IntKind.i64.wrap ((k : Int) + 1) = ((k + 1 : Nat) : Int) := by rw [show (k : Int) + 1 = ((k + 1 : Nat) : Int) by omega]; exact wrapI _ (by omega) (by omega)
      obtain ⟨cs, K, hs, hi, hf⟩ := SV
      obtain ⟨ak, lk, ck, ek, nk⟩ := hf k (by omega)
      have k2 := (K.at k).trans ek
      have SV : Sv wr g2 M1 m q := ⟨cs, K, hs, hi, hf⟩
      have ML := fun x a1 l1 c1 a2 l2 c2 (n1 : Nn x a1 l1 c1 (e2 q fr k)) (n2 : Nn x a2 l2 c2 10000000) => Mul_n n1 n2 (e2_pw (f := fr) hq hN (show k ≤ N + 1 by omega)) ten_pw (by unfold MulOK; omega)
      have pm : e2 q fr k * 10000000 < Tn.pw 60 := by
        have a := e2_pw (f := fr) hq hN (show k + 1 ≤ N + 1 by omega)
        have b := (al_bd hq k (by omega)).1
        have e : e2 q fr (k + 1) = e2 q fr k * 10000000 + (if fr < k then al q k else 0) := rfl
        split at e <;> omega
      have i1 : (0 : Int) ≤ (k : Int) := by omega
      have i2 : ((k : Int)).toNat = k := by omega
      have i3 : (k : Int) < (M1 : Int) := by omega
      have HK : Hid (k + 1 ≤ M1) := lt
      have kN : k ≤ N := by omega
      have L13 := L13.out
      clear hf ek hs hi K mM
      by_cases c9 : fr < k
      · have HB : Hid (fr < k) := c9
        have h9 : (k : Int) > (fr : Int) := by omega
        have ea : e2 q fr k * 10000000 + al q k = e2 q fr (k + 1) := by
          show _ = e2 q fr k * 10000000 + (if fr < k then al q k else 0)
          rw [if_pos (by omega)]
        have AD := fun x a1 l1 c1 a2 l2 c2 (n1 : Nn x a1 l1 c1 (e2 q fr k * 10000000)) (n2 : Nn x a2 l2 c2 (al q k)) => Add_n n1 n2 (m := 60) pm (al_pw hq kN (by omega)) (by decide)
        have ea2 := ea
        clear kN hq hm hfr hyr hN ea pm S1 P LO RR
        go_wp2_with fail
        have al1 := (Below.refl wr.heap.size wr).alloc (Nat.le_refl _) (.cells #[.slice ak lk ck] 56)
        have K5 := Blk.new wr #[.slice ak lk ck] 56
        have ne5 : wr.heap.size ≠ n13 := by have := K13.lt; omega
        have K13 := K13.alloc (.cells #[.slice ak lk ck] 56)
        have KR := KR.alloc (.cells #[.slice ak lk ck] 56)
        have SV := SV.grow al1
        have nk := nk.grow al1
        have n1 := n1.grow al1
        have p := bel' p al1
        generalize wr.alloc (.cells #[.slice ak lk ck] 56) = W at *
        generalize wr.heap.size = n5 at *
        have x0 := K13.at 0
        simp at x0
        go_region_with (first
          | (go_at_call 50; (have z := d1); (refine (ML _ _ _ _ _ _ _ (n1.grow d1) u2).mono ?_); (rintro e w3 ⟨a3, l3, c3, rfl, n3, b3⟩); (have d3 := bel' d1 b3); (have K3 := K13.below d3 K13.lt); (have z0 := K3.at 0); (have z1 := K3.free 0); (simp at z0); (have K13b : Blk (w3.setCell ⟨n13, 0, none⟩ (.slice a3 l3 c3)) n13 #[.slice a3 l3 c3] 56 := by simpa using bput K3 0 (.slice a3 l3 c3)); (have K5b := bskip (K5.below d3 K5.lt) (fun e => ne5 e.symm) 0 (.slice a3 l3 c3)); (have x5 := K5b.at 0); (have x6 := K13b.at 0); (simp at x5 x6); (have n3b := n3.box (u := .slice a3 l3 c3) (Bx.of K3)); (have nkb := (nk.grow d3).box (u := .slice a3 l3 c3) (Bx.of K3)))
          | (go_at_call 51; (refine (unit_n _).mono ?_); (rintro e w2 ⟨a2, l2, c2, rfl, u2, b2⟩); (have d1 := undrew b2); (have x1 := (d1.cell (p := ⟨n13, 0, none⟩) K13.lt).trans x0))
          | fail)
        all_goals
         go_wp2_with (first
          | (go_at_call 52; (have z := K13b); (refine (AD _ _ _ _ _ _ _ n3b nkb).mono ?_); (rintro e w5 ⟨a5, l5, c5, rfl, n6, b5⟩); (have K7 := K13b.below b5 K13b.lt); (have v0 := K7.at 0); (have v1 := K7.free 0); (simp at v0))
          | fail)
         have neR : n13 ≠ w.heap.size + 1 + 1 := by omega
         have KRb := bskip (KR.below d3 KR.lt) neR 0 (.slice a3 l3 c3)
         have SVb := svput (SV.grow d3) K3 ne2 (.slice a3 l3 c3)
         have pb := (bel' p d3).setCell (p := ⟨n13, 0, none⟩) (show w.heap.size ≤ n13 by omega) (.slice a3 l3 c3)
         have K13c : Blk (w5.setCell ⟨n13, 0, none⟩ (.slice a5 l5 c5)) n13 #[.slice a5 l5 c5] 56 := by simpa using bput K7 0 (.slice a5 l5 c5)
         have KRc := bskip (KRb.below b5 KRb.lt) neR 0 (.slice a5 l5 c5)
         have SVc := svput (SVb.grow b5) K7 ne2 (.slice a5 l5 c5)
         have n6c := n6.box (u := .slice a5 l5 c5) (Bx.of K7)
         have pc := (bel' pb b5).setCell (p := ⟨n13, 0, none⟩) (show w.heap.size ≤ n13 by omega) (.slice a5 l5 c5)
         rw [ea2] at n6c
         go_roundw
         case rel => exact ⟨k + 1, a5, l5, c5, by go_num, HK.out, K13c, n6c, SVc, KRc, pc⟩
         case measure => simp [RowKit.intOf]; have := HK.out; omega
      · have HB : Hid (¬ fr < k) := c9
        have h9 : ¬ (k : Int) > (fr : Int) := by omega
        have ea : e2 q fr k * 10000000 = e2 q fr (k + 1) := by
          show _ = e2 q fr k * 10000000 + (if fr < k then al q k else 0)
          rw [if_neg (by omega)]; omega
        skip
        rw [ea] at ML
        clear kN hq hm hfr hyr hN ea pm S1 P LO RR
        go_wp2_with fail
        have al1 := (Below.refl wr.heap.size wr).alloc (Nat.le_refl _) (.cells #[.slice ak lk ck] 56)
        have K5 := Blk.new wr #[.slice ak lk ck] 56
        have ne5 : wr.heap.size ≠ n13 := by have := K13.lt; omega
        have K13 := K13.alloc (.cells #[.slice ak lk ck] 56)
        have KR := KR.alloc (.cells #[.slice ak lk ck] 56)
        have SV := SV.grow al1
        have nk := nk.grow al1
        have n1 := n1.grow al1
        have p := bel' p al1
        generalize wr.alloc (.cells #[.slice ak lk ck] 56) = W at *
        generalize wr.heap.size = n5 at *
        have x0 := K13.at 0
        simp at x0
        go_region_with (first
          | (go_at_call 50; (have z := d1); (refine (ML _ _ _ _ _ _ _ (n1.grow d1) u2).mono ?_); (rintro e w3 ⟨a3, l3, c3, rfl, n3, b3⟩); (have d3 := bel' d1 b3); (have K3 := K13.below d3 K13.lt); (have z0 := K3.at 0); (have z1 := K3.free 0); (simp at z0))
          | (go_at_call 51; (refine (unit_n _).mono ?_); (rintro e w2 ⟨a2, l2, c2, rfl, u2, b2⟩); (have d1 := undrew b2); (have x1 := (d1.cell (p := ⟨n13, 0, none⟩) K13.lt).trans x0))
          | fail)
        all_goals
         have neR : n13 ≠ w.heap.size + 1 + 1 := by omega
         have K13b : Blk (w3.setCell ⟨n13, 0, none⟩ (.slice a3 l3 c3)) n13 #[.slice a3 l3 c3] 56 := by simpa using bput K3 0 (.slice a3 l3 c3)
         have KRb := bskip (KR.below d3 KR.lt) neR 0 (.slice a3 l3 c3)
         have SVb := svput (SV.grow d3) K3 ne2 (.slice a3 l3 c3)
         have n3b := n3.box (u := .slice a3 l3 c3) (Bx.of K3)
         have pb := (bel' p d3).setCell (p := ⟨n13, 0, none⟩) (show w.heap.size ≤ n13 by omega) (.slice a3 l3 c3)
         go_wp2_with fail
         go_roundw
         case rel => exact ⟨k + 1, a3, l3, c3, by go_num, HK.out, K13b, n3b, SVb, KRb, pb⟩
         case measure => simp [RowKit.intOf]; have := HK.out; omega
    · obtain rfl : k = M1 := by omega
      have e9 : e2 q fr k = es q fr m := by rw [← HM.out]; exact e2_succ q fr m
      rw [e9] at n1
      have x0 := K13.at 0
      simp at x0
      clear SV S1 hq hfr hyr hN hm e9
      go_wp2_with fail
      go_region_with (first
        | (go_at_call 25; (have z := d4); (refine (RR _ _ (bel' p d4) t4).mono ?_); (rintro e w5 ⟨rfl, b5⟩); (have d5 := bel' d4 b5); (have K1 := KR.below d5 KR.lt); (have z0 := K1.at 0); (have z1 := K1.at 1); (have y0 := K1.free 0); (have y1 := K1.free 1); (simp at z0 z1))
        | (go_at_call 53; (have z := d3); (refine (LO _ _ _ _ _ _ _ (n1.grow d3) n3).mono ?_); (rintro e w4 ⟨g4, a4, l4, c4, a4', l4', c4', rfl, t4, b4⟩); (have d4 := bel' d3 b4))
        | (go_at_call 54; (have z := d2); (refine (P _ _ _ _ n2).mono ?_); (rintro e w3 ⟨a3, l3, c3, rfl, n3, b3⟩); (have d3 := bel' d2 b3); (have x2 := keepc b3 (L.lt_of_cell x1) x1))
        | (go_at_call 51; (refine (unit_n _).mono ?_); (rintro e w2 ⟨a2, l2, c2, rfl, n2, b2⟩); (have d2 := undrew b2); (have x1 := keepc d2 (L.lt_of_cell x0) x0))
        | fail)
      all_goals
        have KE := bput (bput K1 0 (.string u)) 1 (.string t)
        have bE := ((bel' p d5).setCell (p := ⟨w.heap.size + 1 + 1, 0, none⟩) (show w.heap.size ≤ w.heap.size + 1 + 1 by omega) (.string u)).setCell (p := ⟨w.heap.size + 1 + 1, 1, none⟩) (show w.heap.size ≤ w.heap.size + 1 + 1 by omega) (.string t)
        have q0 := KE.at 0
        have q1 := KE.at 1
        simp at q0 q1
        go_wp2_with fail
        exact bodyPost_ret (v := .tuple #[.agg #[.string u, .string t], .int .i64 er]) (by simp [results, Tryz.results19, go_sem, q0, q1]) rfl ⟨rfl, bE⟩
end Go.Proofs.YtfalncbcomlelaaGreatDoor.Ta
