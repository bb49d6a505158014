import Derived.Test.YtmopfnhjooopkaaGreatDoorPart38
import Derived.Test.YtmopfnhjooopkaaGreatDoorPart37
import Derived.Test.YtmopfnhjooopkaaGreatDoorPart39
import Derived.Test.YtmopfnhjooopkaaGreatDoorPart45
import Derived.Test.YtmopfnhjooopkaaGreatDoorPart46
import Derived.Test.YtmopfnhjooopkaaGreatDoorPart47
import Derived.Test.YtmopfnhjooopkaaGreatDoorPart32
import Derived.Lib.SmallJoins

namespace Go.Proofs.YtmopfnhjooopkaaGreatDoor.Mo
open Go.RowKit

set_option maxRecDepth 100000 in
set_option maxHeartbeats 3200000 in
theorem yearly_c0 (bx : Nat) (k off : Int) (N : Nat) (am : Nat → Int) (gr r : Rat) (w : World) (hN : N ≤ 130) (hoff : off = 0)
    (FN : ∀ x (j : Nat), j < N → Below w.heap.size w x → Calls Tryz.prog 86 #[.int .i64 ((j : Int) + 1), .pointer (some ⟨bx, 0, none⟩)] x fun e w' => e = .returned (.int .i64 (am (j + 1))) ∧ w' = x)
    (OI : ∀ x (j : Nat), j < N → Calls Tryz.prog 29 #[.int .i64 (am (j + 1))] x fun e w' => ∃ a l c a' l' c', e = .returned (.agg #[.bool false, .slice a l c, .slice a' l' c']) ∧ Nn w' a l c (am (j + 1)) ∧ Below x.heap.size x w')
    (GR : ∀ x, Calls Tryz.prog 182 #[.int .i64 k] x (Fa gr x))
    (VA : ∀ x g2 v, Below w.heap.size w x → Py x g2 N N off am → PF x v gr → Calls Tryz.prog 181 #[.slice (some ⟨g2, 0, none⟩) N N, v, .int .i64 0] x (Fa r x)) :
    Calls Tryz.prog 143 #[.int .i64 k, .int .i64 (N : Int), .bool false, .func (.func 86) #[] #[.pointer (some ⟨bx, 0, none⟩)]] w (Fa r w) := by
  have HO : Hid (off = 0) := hoff
  clear hoff
  have KR := Rb.new w (.bool false) (.slice none 0 0) (.slice none 0 0) 57
  have pr : Below w.heap.size w (w.alloc (.cells #[.bool false, .slice none 0 0, .slice none 0 0] 57)) := (Below.refl _ _).alloc (Nat.le_refl _) _
  have HN : Hid (N ≤ 130) := hN
  go_enter Tryz.func143, Tryz.ntmps143
  go_wp2_with (first
    | (at_make; refine make_pays rfl _ _ rfl N rfl rfl (by have := HN.out; omega) ?_; intro cs hs hi he; have K0 := Blk.new (w.alloc (.cells #[.bool false, .slice none 0 0, .slice none 0 0] 57)) cs 195; have KR0 := KR.alloc (.cells cs 195); have p0 := pr.alloc pr.size (.cells cs 195))
    | fail)
  have S0 : Py ((w.alloc (.cells #[.bool false, .slice none 0 0, .slice none 0 0] 57)).alloc (.cells cs 195)) (w.alloc (.cells #[.bool false, .slice none 0 0, .slice none 0 0] 57)).heap.size N 0 off am := ⟨cs, K0, hs, hi, fun j hj => absurd hj (by omega)⟩
  simp only [World.size_alloc] at S0
  generalize (w.alloc (.cells #[.bool false, .slice none 0 0, .slice none 0 0] 57)).alloc (.cells cs 195) = W at *
  have S0' : Py W (w.heap.size + 1) N 0 off am := S0
  clear S0 K0 hs hi he KR pr
  generalize hg : w.heap.size + 1 = g at *
  have HG : Hid (w.heap.size ≠ g ∧ w.heap.size ≤ g) := ⟨by omega, by omega⟩
  clear hg
  go_loopw [11, 16] (fun _ i wr => ∃ j : Nat, i = .int .i64 j ∧ j ≤ N ∧ Py wr g N j off am ∧ Rb wr w.heap.size (.bool false) (.slice none 0 0) (.slice none 0 0) ∧ Below w.heap.size w wr) (fun _ i _ => N - (RowKit.intOf i).toNat)
  case atStart => exact ⟨0, rfl, Nat.zero_le _, S0', KR0, p0⟩
  case round =>
    clear S0' KR0 p0
    obtain ⟨j, rfl, hj, S, KR, p⟩ := hrel
    by_cases lt : j < N
    · have F1 := fun x b => FN x j lt b
      have O1 := fun x => OI x j lt
      have y9 : IntKind.i64.wrap ((j : Int) + 1) = (j : Int) + 1 := wrapIc _ (by omega) (by omega)
      have y8 : IntKind.i64.wrap (1 + (j : Int)) = 1 + (j : Int) := wrapIc _ (by omega) (by omega)
      have i1 : (0 : Int) ≤ (j : Int) := by omega
      have i2 : ((j : Int)).toNat = j := by omega
      have i3 : (j : Int) < (N : Int) := by omega
      have HK : Hid (j + 1 ≤ N) := lt
      obtain ⟨cs, K, hs, hi, fj⟩ := S
      have S : Py wr g N j off am := ⟨cs, K, hs, hi, fj⟩
      obtain ⟨v0, e0⟩ : ∃ v, cs[j * 4]? = some v := ⟨_, Array.getElem?_eq_getElem (by omega)⟩
      obtain ⟨v1, e1⟩ : ∃ v, cs[j * 4 + 1]? = some v := ⟨_, Array.getElem?_eq_getElem (by omega)⟩
      obtain ⟨v2, e2⟩ : ∃ v, cs[j * 4 + 2]? = some v := ⟨_, Array.getElem?_eq_getElem (by omega)⟩
      obtain ⟨v3, e3⟩ : ∃ v, cs[j * 4 + 3]? = some v := ⟨_, Array.getElem?_eq_getElem (by omega)⟩
      generalize hA : am (j + 1) = A at *
      clear FN OI GR VA hj hs hi fj lt hN
      go_wp2_with (first
        | (go_at_call 29; (refine (O1 _).mono ?_); (rintro e w3 ⟨a, l, c, a', l', c', rfl, n3, b3⟩); (have K3 := K.below b3 K.lt); (have z0 := (K3.at (j * 4)).trans e0); (have z1 := (K3.at (j * 4 + 1)).trans e1); (have z2 := (K3.at (j * 4 + 2)).trans e2); (have z3 := (K3.at (j * 4 + 3)).trans e3); (have y0 := K3.free (j * 4)); (have y1 := K3.free (j * 4 + 1)); (have y2 := K3.free (j * 4 + 2)); (have y3 := K3.free (j * 4 + 3)))
        | (go_at_call 86; (refine (F1 _ p).mono ?_); (rintro e w2 ⟨rfl, hw2⟩); subst w2)
        | fail)
      have Sn := (S.grow b3).push (a := a) (l := l) (c := c) (a' := a') (l' := l') (c' := c') (hA ▸ n3) (show j < N from HK.out)
      have he : 1 - off + (j : Int) = (1 + (j : Int)) := by rw [HO.out]; omega
      have hg := HG.out
      have pn := (((bel' p b3).setCell (p := ⟨g, j * 4, none⟩) hg.2 (.int .i64 (1 - off + (j : Int)))).setCell (p := ⟨g, j * 4 + 1, none⟩) hg.2 (.bool false)).setCell (p := ⟨g, j * 4 + 2, none⟩) hg.2 (.slice a l c)
      have pn := pn.setCell (p := ⟨g, j * 4 + 3, none⟩) hg.2 (.slice a' l' c')
      have KRn := (((KR.grow b3).skipi hg.1 (j * 4) (.int .i64 (1 - off + (j : Int)))).skipi hg.1 (j * 4 + 1) (.bool false)).skipi hg.1 (j * 4 + 2) (.slice a l c)
      have KRn := KRn.skipi hg.1 (j * 4 + 3) (.slice a' l' c')
      rw [he] at Sn pn KRn
      go_roundw
      case rel => exact ⟨j + 1, by go_num, HK.out, Sn, KRn, pn⟩
      case measure => simp [RowKit.intOf]; have := HK.out; omega
    · obtain rfl : j = N := by omega
      have V1 := fun x v b h h' => VA x g v b h h'
      clear FN OI VA hj hN
      go_wp2_with (first
        | (go_at_call 181; (have mk := b2); (refine (V1 _ _ (bel' p b2) (S.grow b2) t2).mono ?_); (rintro e w3 ⟨g3, a3, l3, c3, a3', l3', c3', rfl, t3, b3⟩); (have d3 := bel' b2 b3); (have R := KR.grow d3); (have q0 := R.c0); (have q1 := R.c1); (have q2 := R.c2); (have y0 := R.f0); (have y1 := R.f1); (have y2 := R.f2))
        | (go_at_call 182; (refine (GR _).mono ?_); (rintro e w2 ⟨g2, a2, l2, c2, a2', l2', c2', rfl, t2, b2⟩))
        | fail)
      obtain ⟨F0, F1, F2⟩ := R.put (.bool g3) (.slice a3 l3 c3) (.slice a3' l3' c3')
      exact bodyPost_ret (v := .agg #[.bool g3, .slice a3 l3 c3, .slice a3' l3' c3']) (by simp [results, Tryz.results143, go_sem, F0, F1, F2]) rfl ⟨g3, a3, l3, c3, a3', l3', c3', rfl, pfput t3 R, bset3 (bel' p d3) (Nat.le_refl _)⟩
set_option maxRecDepth 100000 in
set_option maxHeartbeats 3200000 in
theorem yearly_c1 (bx : Nat) (k off : Int) (N : Nat) (am : Nat → Int) (gr r : Rat) (w : World) (hN : N ≤ 130) (hoff : off = 1)
    (FN : ∀ x (j : Nat), j < N → Below w.heap.size w x → Calls Tryz.prog 86 #[.int .i64 ((j : Int) + 1), .pointer (some ⟨bx, 0, none⟩)] x fun e w' => e = .returned (.int .i64 (am (j + 1))) ∧ w' = x)
    (OI : ∀ x (j : Nat), j < N → Calls Tryz.prog 29 #[.int .i64 (am (j + 1))] x fun e w' => ∃ a l c a' l' c', e = .returned (.agg #[.bool false, .slice a l c, .slice a' l' c']) ∧ Nn w' a l c (am (j + 1)) ∧ Below x.heap.size x w')
    (GR : ∀ x, Calls Tryz.prog 182 #[.int .i64 k] x (Fa gr x))
    (VA : ∀ x g2 v, Below w.heap.size w x → Py x g2 N N off am → PF x v gr → Calls Tryz.prog 181 #[.slice (some ⟨g2, 0, none⟩) N N, v, .int .i64 0] x (Fa r x)) :
    Calls Tryz.prog 143 #[.int .i64 k, .int .i64 (N : Int), .bool true, .func (.func 86) #[] #[.pointer (some ⟨bx, 0, none⟩)]] w (Fa r w) := by
  have HO : Hid (off = 1) := hoff
  clear hoff
  have KR := Rb.new w (.bool false) (.slice none 0 0) (.slice none 0 0) 57
  have pr : Below w.heap.size w (w.alloc (.cells #[.bool false, .slice none 0 0, .slice none 0 0] 57)) := (Below.refl _ _).alloc (Nat.le_refl _) _
  have HN : Hid (N ≤ 130) := hN
  go_enter Tryz.func143, Tryz.ntmps143
  go_wp2_with (first
    | (at_make; refine make_pays rfl _ _ rfl N rfl rfl (by have := HN.out; omega) ?_; intro cs hs hi he; have K0 := Blk.new (w.alloc (.cells #[.bool false, .slice none 0 0, .slice none 0 0] 57)) cs 195; have KR0 := KR.alloc (.cells cs 195); have p0 := pr.alloc pr.size (.cells cs 195))
    | fail)
  have S0 : Py ((w.alloc (.cells #[.bool false, .slice none 0 0, .slice none 0 0] 57)).alloc (.cells cs 195)) (w.alloc (.cells #[.bool false, .slice none 0 0, .slice none 0 0] 57)).heap.size N 0 off am := ⟨cs, K0, hs, hi, fun j hj => absurd hj (by omega)⟩
  simp only [World.size_alloc] at S0
  generalize (w.alloc (.cells #[.bool false, .slice none 0 0, .slice none 0 0] 57)).alloc (.cells cs 195) = W at *
  have S0' : Py W (w.heap.size + 1) N 0 off am := S0
  clear S0 K0 hs hi he KR pr
  generalize hg : w.heap.size + 1 = g at *
  have HG : Hid (w.heap.size ≠ g ∧ w.heap.size ≤ g) := ⟨by omega, by omega⟩
  clear hg
  go_loopw [11, 16] (fun _ i wr => ∃ j : Nat, i = .int .i64 j ∧ j ≤ N ∧ Py wr g N j off am ∧ Rb wr w.heap.size (.bool false) (.slice none 0 0) (.slice none 0 0) ∧ Below w.heap.size w wr) (fun _ i _ => N - (RowKit.intOf i).toNat)
  case atStart => exact ⟨0, rfl, Nat.zero_le _, S0', KR0, p0⟩
  case round =>
    clear S0' KR0 p0
    obtain ⟨j, rfl, hj, S, KR, p⟩ := hrel
    by_cases lt : j < N
    · have F1 := fun x b => FN x j lt b
      have O1 := fun x => OI x j lt
      have y9 : IntKind.i64.wrap ((j : Int) + 1) = (j : Int) + 1 := wrapIc _ (by omega) (by omega)
      have y8 : IntKind.i64.wrap ((j : Int)) = (j : Int) := wrapIc _ (by omega) (by omega)
      have i1 : (0 : Int) ≤ (j : Int) := by omega
      have i2 : ((j : Int)).toNat = j := by omega
      have i3 : (j : Int) < (N : Int) := by omega
      have HK : Hid (j + 1 ≤ N) := lt
      obtain ⟨cs, K, hs, hi, fj⟩ := S
      have S : Py wr g N j off am := ⟨cs, K, hs, hi, fj⟩
      obtain ⟨v0, e0⟩ : ∃ v, cs[j * 4]? = some v := ⟨_, Array.getElem?_eq_getElem (by omega)⟩
      obtain ⟨v1, e1⟩ : ∃ v, cs[j * 4 + 1]? = some v := ⟨_, Array.getElem?_eq_getElem (by omega)⟩
      obtain ⟨v2, e2⟩ : ∃ v, cs[j * 4 + 2]? = some v := ⟨_, Array.getElem?_eq_getElem (by omega)⟩
      obtain ⟨v3, e3⟩ : ∃ v, cs[j * 4 + 3]? = some v := ⟨_, Array.getElem?_eq_getElem (by omega)⟩
      generalize hA : am (j + 1) = A at *
      clear FN OI GR VA hj hs hi fj lt hN
      go_wp2_with (first
        | (go_at_call 29; (refine (O1 _).mono ?_); (rintro e w3 ⟨a, l, c, a', l', c', rfl, n3, b3⟩); (have K3 := K.below b3 K.lt); (have z0 := (K3.at (j * 4)).trans e0); (have z1 := (K3.at (j * 4 + 1)).trans e1); (have z2 := (K3.at (j * 4 + 2)).trans e2); (have z3 := (K3.at (j * 4 + 3)).trans e3); (have y0 := K3.free (j * 4)); (have y1 := K3.free (j * 4 + 1)); (have y2 := K3.free (j * 4 + 2)); (have y3 := K3.free (j * 4 + 3)))
        | (go_at_call 86; (refine (F1 _ p).mono ?_); (rintro e w2 ⟨rfl, hw2⟩); subst w2)
        | fail)
      have Sn := (S.grow b3).push (a := a) (l := l) (c := c) (a' := a') (l' := l') (c' := c') (hA ▸ n3) (show j < N from HK.out)
      have he : 1 - off + (j : Int) = (j : Int) := by rw [HO.out]; omega
      have hg := HG.out
      have pn := (((bel' p b3).setCell (p := ⟨g, j * 4, none⟩) hg.2 (.int .i64 (1 - off + (j : Int)))).setCell (p := ⟨g, j * 4 + 1, none⟩) hg.2 (.bool false)).setCell (p := ⟨g, j * 4 + 2, none⟩) hg.2 (.slice a l c)
      have pn := pn.setCell (p := ⟨g, j * 4 + 3, none⟩) hg.2 (.slice a' l' c')
      have KRn := (((KR.grow b3).skipi hg.1 (j * 4) (.int .i64 (1 - off + (j : Int)))).skipi hg.1 (j * 4 + 1) (.bool false)).skipi hg.1 (j * 4 + 2) (.slice a l c)
      have KRn := KRn.skipi hg.1 (j * 4 + 3) (.slice a' l' c')
      rw [he] at Sn pn KRn
      go_roundw
      case rel => exact ⟨j + 1, by go_num, HK.out, Sn, KRn, pn⟩
      case measure => simp [RowKit.intOf]; have := HK.out; omega
    · obtain rfl : j = N := by omega
      have V1 := fun x v b h h' => VA x g v b h h'
      clear FN OI VA hj hN
      go_wp2_with (first
        | (go_at_call 181; (have mk := b2); (refine (V1 _ _ (bel' p b2) (S.grow b2) t2).mono ?_); (rintro e w3 ⟨g3, a3, l3, c3, a3', l3', c3', rfl, t3, b3⟩); (have d3 := bel' b2 b3); (have R := KR.grow d3); (have q0 := R.c0); (have q1 := R.c1); (have q2 := R.c2); (have y0 := R.f0); (have y1 := R.f1); (have y2 := R.f2))
        | (go_at_call 182; (refine (GR _).mono ?_); (rintro e w2 ⟨g2, a2, l2, c2, a2', l2', c2', rfl, t2, b2⟩))
        | fail)
      obtain ⟨F0, F1, F2⟩ := R.put (.bool g3) (.slice a3 l3 c3) (.slice a3' l3' c3')
      exact bodyPost_ret (v := .agg #[.bool g3, .slice a3 l3 c3, .slice a3' l3' c3']) (by simp [results, Tryz.results143, go_sem, F0, F1, F2]) rfl ⟨g3, a3, l3, c3, a3', l3', c3', rfl, pfput t3 R, bset3 (bel' p d3) (Nat.le_refl _)⟩
end Go.Proofs.YtmopfnhjooopkaaGreatDoor.Mo

namespace Go.Proofs.YtmopfnhjooopkaaGreatDoor.Mo
open Go.RowKit Tn Ip

theorem one_f (k : Int) (w : World) : Calls Tryz.prog 84 #[.int .i64 k] w fun e w' => e = .returned (.int .i64 1) ∧ w' = w := by
  go_enter Tryz.func84, Tryz.ntmps84
  go_wp2_with fail
  go_ret
  exact ⟨rfl, rfl⟩
theorem up_f (k : Int) (w : World) : Calls Tryz.prog 85 #[.int .i64 k] w fun e w' => e = .returned (.int .i64 k) ∧ w' = w := by
  go_enter Tryz.func85, Tryz.ntmps85
  go_wp2_with fail
  go_ret
  exact ⟨rfl, rfl⟩
theorem dn_f (n : Nat) (j bx : Nat) (w : World) (hn : n ≤ 130) (hj : j < n) (h : w.cell? ⟨bx, 0, none⟩ = some (.int .i64 (n : Int))) : Calls Tryz.prog 86 #[.int .i64 ((j : Int) + 1), .pointer (some ⟨bx, 0, none⟩)] w fun e w' => e = .returned (.int .i64 ((n : Int) + 1 - ((j : Int) + 1))) ∧ w' = w := by
  obtain ⟨K, hK⟩ : ∃ K, (j : Int) + 1 = K := ⟨_, rfl⟩
  obtain ⟨N, hN⟩ : ∃ N, (n : Int) + 1 = N := ⟨_, rfl⟩
  obtain ⟨D, hD⟩ : ∃ D, N - K = D := ⟨_, rfl⟩
  have e1 : IntKind.i64.wrap ((n : Int) + 1) = N := by rw [hN]; exact wrapIc _ (by omega) (by omega)
  have e2 : IntKind.i64.wrap (N - K) = D := by rw [hD]; exact wrapIc _ (by omega) (by omega)
  rw [hN, hK, hD]
  clear hK hN hD hn hj
  go_enter Tryz.func86, Tryz.ntmps86
  go_wp2_with fail
  go_ret
  exact ⟨rfl, rfl⟩
/-- A whole number that is answered, by its parts. -/
theorem oi_f (a : Int) (w : World) (h0 : 0 ≤ a) (h1 : a ≤ 130) : Calls Tryz.prog 29 #[.int .i64 a] w fun e w' => ∃ p l c p' l' c', e = .returned (.agg #[.bool false, .slice p l c, .slice p' l' c']) ∧ Nn w' p l c a ∧ Below w.heap.size w w' :=
  (OfInt_p a w (by omega) (by omega)).mono fun e w' h => by
    obtain ⟨v, rfl, ⟨p, l, c, p', l', c', rfl, n1, _⟩, b⟩ := h
    have e1 : decide (((a : Rat)).num < 0) = false := by rw [Rat.num_intCast]; exact decide_eq_false (by omega)
    rw [Rat.num_intCast] at n1
    have e2 : ((a.natAbs : Nat) : Int) = a := by omega
    rw [e2] at n1
    exact ⟨p, l, c, p', l', c', by rw [e1], n1, b⟩
theorem Certain_any (k n : Int) (due : Bool) (w : World) (G : Gw w) : Calls Tryz.prog 25 #[.int .i64 k, .int .i64 n, .bool due] w fun e w' => e = .returned (gA (okR k && okY n) (av 1 k (if due then 1 else 0) n.toNat)) ∧ Below w.heap.size w w' := by
  cases h : (okR k && okY n)
  · exact Certain_r k n due _ _ 1 w (fun x _ => annuity_no k n due _ x h)
  · obtain ⟨h1, h2⟩ := Bool.and_eq_true_iff.1 h
    have y := okY_iff h2
    obtain ⟨N, rfl⟩ : ∃ N : Nat, n = N := ⟨n.toNat, by omega⟩
    rw [Int.toNat_natCast]
    have bb : Bd (av 1 k (if due then 1 else 0) N) 7300 := av_bd h1 (by split <;> decide) (by split <;> decide) (by omega)
    obtain ⟨s, t, er, fm⟩ := gA_form true (av 1 k (if due then 1 else 0) N)
    rw [fm]
    have fw : Value.tuple #[wrt (av 1 k (if due then 1 else 0) N), .int .i64 0] = .tuple #[.agg #[.string s, .string t], .int .i64 er] := by rw [← fm]; rfl
    refine Certain_r k N due s t er w (fun x b => annuity_yes k N due _ (av 1 k (if due then 1 else 0) N) s t er x (fun y by' => ?_) (fun y v by' pf => ?_) h1 h2)
    · skip
      cases due
      · exact yearly_a0 k 0 N (fun j => pay 1 (N : Int) (j : Int)) (gr k) _ y (by omega) rfl (fun z j _ _ => by have := one_f ((j : Int) + 1) z; exact this) (fun z j hj => oi_f _ z (pay_ok (kind := 1) (by omega) j hj).1 (pay_ok (kind := 1) (by omega) j hj).2) (fun z => growth_p k z h1) (fun z g2 v _ py pf => value_vs k 0 _ g2 N v z h1 (by decide) (by decide) (by omega) (pay_ok (by omega)) py pf)
      · exact yearly_a1 k 1 N (fun j => pay 1 (N : Int) (j : Int)) (gr k) _ y (by omega) rfl (fun z j _ _ => by have := one_f ((j : Int) + 1) z; exact this) (fun z j hj => oi_f _ z (pay_ok (kind := 1) (by omega) j hj).1 (pay_ok (kind := 1) (by omega) j hj).2) (fun z => growth_p k z h1) (fun z g2 v _ py pf => value_vs k 1 _ g2 N v z h1 (by decide) (by decide) (by omega) (pay_ok (by omega)) py pf)
    · rw [← fw]
      exact Ratio_s v _ 7300 y pf bb (by decide) ((G.grow b).grow by')
theorem Rising_any (k n : Int) (due : Bool) (w : World) (G : Gw w) : Calls Tryz.prog 26 #[.int .i64 k, .int .i64 n, .bool due] w fun e w' => e = .returned (gA (okR k && okY n) (av 2 k (if due then 1 else 0) n.toNat)) ∧ Below w.heap.size w w' := by
  cases h : (okR k && okY n)
  · exact Rising_r k n due _ _ 1 w (fun x _ => annuity_no k n due _ x h)
  · obtain ⟨h1, h2⟩ := Bool.and_eq_true_iff.1 h
    have y := okY_iff h2
    obtain ⟨N, rfl⟩ : ∃ N : Nat, n = N := ⟨n.toNat, by omega⟩
    rw [Int.toNat_natCast]
    have bb : Bd (av 2 k (if due then 1 else 0) N) 7300 := av_bd h1 (by split <;> decide) (by split <;> decide) (by omega)
    obtain ⟨s, t, er, fm⟩ := gA_form true (av 2 k (if due then 1 else 0) N)
    rw [fm]
    have fw : Value.tuple #[wrt (av 2 k (if due then 1 else 0) N), .int .i64 0] = .tuple #[.agg #[.string s, .string t], .int .i64 er] := by rw [← fm]; rfl
    refine Rising_r k N due s t er w (fun x b => annuity_yes k N due _ (av 2 k (if due then 1 else 0) N) s t er x (fun y by' => ?_) (fun y v by' pf => ?_) h1 h2)
    · skip
      cases due
      · exact yearly_b0 k 0 N (fun j => pay 2 (N : Int) (j : Int)) (gr k) _ y (by omega) rfl (fun z j _ _ => by have := up_f ((j : Int) + 1) z; exact this) (fun z j hj => oi_f _ z (pay_ok (kind := 2) (by omega) j hj).1 (pay_ok (kind := 2) (by omega) j hj).2) (fun z => growth_p k z h1) (fun z g2 v _ py pf => value_vs k 0 _ g2 N v z h1 (by decide) (by decide) (by omega) (pay_ok (by omega)) py pf)
      · exact yearly_b1 k 1 N (fun j => pay 2 (N : Int) (j : Int)) (gr k) _ y (by omega) rfl (fun z j _ _ => by have := up_f ((j : Int) + 1) z; exact this) (fun z j hj => oi_f _ z (pay_ok (kind := 2) (by omega) j hj).1 (pay_ok (kind := 2) (by omega) j hj).2) (fun z => growth_p k z h1) (fun z g2 v _ py pf => value_vs k 1 _ g2 N v z h1 (by decide) (by decide) (by omega) (pay_ok (by omega)) py pf)
    · rw [← fw]
      exact Ratio_s v _ 7300 y pf bb (by decide) ((G.grow b).grow by')
theorem Falling_any (k n : Int) (due : Bool) (w : World) (G : Gw w) : Calls Tryz.prog 27 #[.int .i64 k, .int .i64 n, .bool due] w fun e w' => e = .returned (gA (okR k && okY n) (av 3 k (if due then 1 else 0) n.toNat)) ∧ Below w.heap.size w w' := by
  cases h : (okR k && okY n)
  · exact Falling_r k n due _ _ 1 w (fun x _ _ => annuity_no k n due _ x h)
  · obtain ⟨h1, h2⟩ := Bool.and_eq_true_iff.1 h
    have y := okY_iff h2
    obtain ⟨N, rfl⟩ : ∃ N : Nat, n = N := ⟨n.toNat, by omega⟩
    rw [Int.toNat_natCast]
    have bb : Bd (av 3 k (if due then 1 else 0) N) 7300 := av_bd h1 (by split <;> decide) (by split <;> decide) (by omega)
    obtain ⟨s, t, er, fm⟩ := gA_form true (av 3 k (if due then 1 else 0) N)
    rw [fm]
    have fw : Value.tuple #[wrt (av 3 k (if due then 1 else 0) N), .int .i64 0] = .tuple #[.agg #[.string s, .string t], .int .i64 er] := by rw [← fm]; rfl
    refine Falling_r k N due s t er w (fun x b cx => annuity_yes k N due _ (av 3 k (if due then 1 else 0) N) s t er x (fun y by' => ?_) (fun y v by' pf => ?_) h1 h2)
    · have cy := (by'.cell (p := ⟨w.heap.size, 0, none⟩) (L.lt_of_cell cx)).trans cx
      cases due
      · exact yearly_c0 w.heap.size k 0 N (fun j => pay 3 (N : Int) (j : Int)) (gr k) _ y (by omega) rfl (fun z j hj bz => by have := dn_f N j w.heap.size z (by omega) hj ((bz.cell (p := ⟨w.heap.size, 0, none⟩) (L.lt_of_cell cy)).trans cy); exact this) (fun z j hj => oi_f _ z (pay_ok (kind := 3) (by omega) j hj).1 (pay_ok (kind := 3) (by omega) j hj).2) (fun z => growth_p k z h1) (fun z g2 v _ py pf => value_vs k 0 _ g2 N v z h1 (by decide) (by decide) (by omega) (pay_ok (by omega)) py pf)
      · exact yearly_c1 w.heap.size k 1 N (fun j => pay 3 (N : Int) (j : Int)) (gr k) _ y (by omega) rfl (fun z j hj bz => by have := dn_f N j w.heap.size z (by omega) hj ((bz.cell (p := ⟨w.heap.size, 0, none⟩) (L.lt_of_cell cy)).trans cy); exact this) (fun z j hj => oi_f _ z (pay_ok (kind := 3) (by omega) j hj).1 (pay_ok (kind := 3) (by omega) j hj).2) (fun z => growth_p k z h1) (fun z g2 v _ py pf => value_vs k 1 _ g2 N v z h1 (by decide) (by decide) (by omega) (pay_ok (by omega)) py pf)
    · rw [← fw]
      exact Ratio_s v _ 7300 y pf bb (by decide) ((G.grow b).grow by')
end Go.Proofs.YtmopfnhjooopkaaGreatDoor.Mo

namespace Go.Proofs.YtmopfnhjooopkaaGreatDoor.Mo
open Go.RowKit Go.Lib Ip

set_option maxRecDepth 100000 in
set_option maxHeartbeats 3200000 in
theorem certain_walk (k n m e1 e2 e3 : Int) (due : Bool) (s1 t1 s2 t2 s3 t3 : ByteArray) (w : World) (C1 : ∀ x, Below w.heap.size w x → Calls Tryz.prog 25 #[.int .i64 k, .int .i64 n, .bool due] x fun e w' => e = .returned (.tuple #[.agg #[.string s1, .string t1], .int .i64 e1]) ∧ Below x.heap.size x w') (C2 : ∀ x, Below w.heap.size w x → Calls Tryz.prog 26 #[.int .i64 k, .int .i64 n, .bool due] x fun e w' => e = .returned (.tuple #[.agg #[.string s2, .string t2], .int .i64 e2]) ∧ Below x.heap.size x w') (C3 : ∀ x, Below w.heap.size w x → Calls Tryz.prog 27 #[.int .i64 k, .int .i64 n, .bool due] x fun e w' => e = .returned (.tuple #[.agg #[.string s3, .string t3], .int .i64 e3]) ∧ Below x.heap.size x w') (C4 : ∀ x, Below w.heap.size w x → Calls Tryz.prog 28 #[.int .i64 1, .int .i64 k, .int .i64 n, .bool due] x fun e w' => e = .returned (.tuple #[.agg #[.string s1, .string t1], .int .i64 e1]) ∧ Below x.heap.size x w') (C5 : ∀ x, Below w.heap.size w x → Calls Tryz.prog 28 #[.int .i64 2, .int .i64 k, .int .i64 n, .bool due] x fun e w' => e = .returned (.tuple #[.agg #[.string s2, .string t2], .int .i64 e2]) ∧ Below x.heap.size x w') (C6 : ∀ x, Below w.heap.size w x → Calls Tryz.prog 28 #[.int .i64 3, .int .i64 k, .int .i64 n, .bool due] x fun e w' => e = .returned (.tuple #[.agg #[.string s3, .string t3], .int .i64 e3]) ∧ Below x.heap.size x w') (C7 : ∀ x, Below w.heap.size w x → Calls Tryz.prog 25 #[.int .i64 0, .int .i64 3, .bool true] x fun e w' => e = .returned (.tuple #[.agg #[.string ⟨#[51]⟩, .string ⟨#[49]⟩], .int .i64 0]) ∧ Below x.heap.size x w') :
    Calls Tryz.prog 7 #[.agg #[.int .i64 k, .int .i64 n, .int .i64 m], .bool due] w fun e w' => e = .returned (.bool true) ∧ Below w.heap.size w w' := by
  have KD := Blk.new w #[.int .i64 k, .int .i64 n, .int .i64 m] 49
  have pr : Below w.heap.size w (w.alloc (.cells #[.int .i64 k, .int .i64 n, .int .i64 m] 49)) := (Below.refl _ _).alloc (Nat.le_refl _) _
  go_enter Tryz.func7, Tryz.ntmps7
  go_wp2_with (first
    | (go_at_call 25; (have z7 := p6); (refine (C7 _ p6).mono ?_); (rintro e w7 ⟨rfl, b7⟩); (have al7 := (Below.refl w7.heap.size w7).alloc (Nat.le_refl _) (.cells #[.string ⟨#[51]⟩, .string ⟨#[49]⟩] 23)); (have V7 := Blk.new w7 #[.string ⟨#[51]⟩, .string ⟨#[49]⟩] 23); (have bb7 := bel' b7 al7); (have p7 := bel' p6 bb7); (have KD7 := KD6.below bb7 KD6.lt); (have V1_7 := V1_6.below bb7 V1_6.lt); (have V2_7 := V2_6.below bb7 V2_6.lt); (have V3_7 := V3_6.below bb7 V3_6.lt); (have V4_7 := V4_6.below bb7 V4_6.lt); (have V5_7 := V5_6.below bb7 V5_6.lt); (have V6_7 := V6.below bb7 V6.lt); (have dk7 := KD7.at 0); (have dn7 := KD7.at 1); (simp at dk7 dn7); (have q0 := V1_7.at 0); (have q1 := V1_7.at 1); (simp at q0 q1); (have q2 := V2_7.at 0); (have q3 := V2_7.at 1); (simp at q2 q3); (have q4 := V3_7.at 0); (have q5 := V3_7.at 1); (simp at q4 q5); (have q6 := V4_7.at 0); (have q7 := V4_7.at 1); (simp at q6 q7); (have q8 := V5_7.at 0); (have q9 := V5_7.at 1); (simp at q8 q9); (have q10 := V6_7.at 0); (have q11 := V6_7.at 1); (simp at q10 q11); (have q12 := V7.at 0); (have q13 := V7.at 1); (simp at q12 q13))
    | (go_at_call 28; (have z6 := p5); (refine (C6 _ p5).mono ?_); (rintro e w6 ⟨rfl, b6⟩); (have al6 := (Below.refl w6.heap.size w6).alloc (Nat.le_refl _) (.cells #[.string s3, .string t3] 23)); (have V6 := Blk.new w6 #[.string s3, .string t3] 23); (have bb6 := bel' b6 al6); (have p6 := bel' p5 bb6); (have KD6 := KD5.below bb6 KD5.lt); (have V1_6 := V1_5.below bb6 V1_5.lt); (have V2_6 := V2_5.below bb6 V2_5.lt); (have V3_6 := V3_5.below bb6 V3_5.lt); (have V4_6 := V4_5.below bb6 V4_5.lt); (have V5_6 := V5.below bb6 V5.lt); (have dk6 := KD6.at 0); (have dn6 := KD6.at 1); (simp at dk6 dn6))
    | (go_at_call 28; (have z5 := p4); (refine (C5 _ p4).mono ?_); (rintro e w5 ⟨rfl, b5⟩); (have al5 := (Below.refl w5.heap.size w5).alloc (Nat.le_refl _) (.cells #[.string s2, .string t2] 23)); (have V5 := Blk.new w5 #[.string s2, .string t2] 23); (have bb5 := bel' b5 al5); (have p5 := bel' p4 bb5); (have KD5 := KD4.below bb5 KD4.lt); (have V1_5 := V1_4.below bb5 V1_4.lt); (have V2_5 := V2_4.below bb5 V2_4.lt); (have V3_5 := V3_4.below bb5 V3_4.lt); (have V4_5 := V4.below bb5 V4.lt); (have dk5 := KD5.at 0); (have dn5 := KD5.at 1); (simp at dk5 dn5))
    | (go_at_call 28; (have z4 := p3); (refine (C4 _ p3).mono ?_); (rintro e w4 ⟨rfl, b4⟩); (have al4 := (Below.refl w4.heap.size w4).alloc (Nat.le_refl _) (.cells #[.string s1, .string t1] 23)); (have V4 := Blk.new w4 #[.string s1, .string t1] 23); (have bb4 := bel' b4 al4); (have p4 := bel' p3 bb4); (have KD4 := KD3.below bb4 KD3.lt); (have V1_4 := V1_3.below bb4 V1_3.lt); (have V2_4 := V2_3.below bb4 V2_3.lt); (have V3_4 := V3.below bb4 V3.lt); (have dk4 := KD4.at 0); (have dn4 := KD4.at 1); (simp at dk4 dn4))
    | (go_at_call 27; (have z3 := p2); (refine (C3 _ p2).mono ?_); (rintro e w3 ⟨rfl, b3⟩); (have al3 := (Below.refl w3.heap.size w3).alloc (Nat.le_refl _) (.cells #[.string s3, .string t3] 23)); (have V3 := Blk.new w3 #[.string s3, .string t3] 23); (have bb3 := bel' b3 al3); (have p3 := bel' p2 bb3); (have KD3 := KD2.below bb3 KD2.lt); (have V1_3 := V1_2.below bb3 V1_2.lt); (have V2_3 := V2.below bb3 V2.lt); (have dk3 := KD3.at 0); (have dn3 := KD3.at 1); (simp at dk3 dn3))
    | (go_at_call 26; (have z2 := p1); (refine (C2 _ p1).mono ?_); (rintro e w2 ⟨rfl, b2⟩); (have al2 := (Below.refl w2.heap.size w2).alloc (Nat.le_refl _) (.cells #[.string s2, .string t2] 23)); (have V2 := Blk.new w2 #[.string s2, .string t2] 23); (have bb2 := bel' b2 al2); (have p2 := bel' p1 bb2); (have KD2 := KD1.below bb2 KD1.lt); (have V1_2 := V1.below bb2 V1.lt); (have dk2 := KD2.at 0); (have dn2 := KD2.at 1); (simp at dk2 dn2))
    | (go_at_call 25; (refine (C1 _ pr).mono ?_); (rintro e w1 ⟨rfl, b1⟩); (have al1 := (Below.refl w1.heap.size w1).alloc (Nat.le_refl _) (.cells #[.string s1, .string t1] 23)); (have V1 := Blk.new w1 #[.string s1, .string t1] 23); (have bb1 := bel' b1 al1); (have p1 := bel' pr bb1); (have KD1 := KD.below bb1 KD.lt); (have dk1 := KD1.at 0); (have dn1 := KD1.at 1); (simp at dk1 dn1))
    | fail)
  go_ret
  exact ⟨rfl, p7⟩
theorem certain_one : gA (okR 0 && okY 3) (av 1 0 (if true then 1 else 0) (3 : Int).toNat) = .tuple #[.agg #[.string ⟨#[51]⟩, .string ⟨#[49]⟩], .int .i64 0] := by
  have e : av 1 0 (if true then 1 else 0) (3 : Int).toNat = mkRat 3 1 := by decide +kernel
  have s1 : sB (sg (decide ((mkRat 3 1).num < 0)) (decDigits (mkRat 3 1).num.natAbs)) = ⟨#[51]⟩ := by decide +kernel
  have s2 : sB (decDigits (mkRat 3 1).den) = ⟨#[49]⟩ := by decide +kernel
  rw [e]
  unfold gA wrt
  rw [if_pos (by decide), s1, s2]
/-- The law. -/
theorem certain_law (k n m : Int) (due : Bool) (w : World) (G : Gw w) : Calls Tryz.prog 7 #[.agg #[.int .i64 k, .int .i64 n, .int .i64 m], .bool due] w fun e w' => e = .returned (.bool true) ∧ Below w.heap.size w w' := by
  obtain ⟨s1, t1, e1, f1⟩ := gA_form (okR k && okY n) (av 1 k (if due then 1 else 0) n.toNat)
  obtain ⟨s2, t2, e2, f2⟩ := gA_form (okR k && okY n) (av 2 k (if due then 1 else 0) n.toNat)
  obtain ⟨s3, t3, e3, f3⟩ := gA_form (okR k && okY n) (av 3 k (if due then 1 else 0) n.toNat)
  have c1 := fun x (b : Below w.heap.size w x) => Certain_any k n due x (G.grow b)
  have c2 := fun x (b : Below w.heap.size w x) => Rising_any k n due x (G.grow b)
  have c3 := fun x (b : Below w.heap.size w x) => Falling_any k n due x (G.grow b)
  have c4 := fun x (_ : Below w.heap.size w x) => RAnn_one k n due x
  have c5 := fun x (_ : Below w.heap.size w x) => RAnn_up k n due x
  have c6 := fun x (_ : Below w.heap.size w x) => RAnn_dn k n due x
  have c7 := fun x (b : Below w.heap.size w x) => Certain_any 0 3 true x (G.grow b)
  simp only [f1] at c1 c4
  simp only [f2] at c2 c5
  simp only [f3] at c3 c6
  rw [certain_one] at c7
  exact certain_walk k n m e1 e2 e3 due s1 t1 s2 t2 s3 t3 w c1 c2 c3 c4 c5 c6 c7
end Go.Proofs.YtmopfnhjooopkaaGreatDoor.Mo

namespace Go.Proofs.YtmopfnhjooopkaaGreatDoor.Dy
open Mo
theorem gPow : Tryz.prog.globalNamed "internal/strconv.uint64pow10" = some 2 := by kernel_rfl
theorem gw_of {w : World} (h : Go.Lib.TabIs Tryz.prog w "internal/strconv.uint64pow10" .u64 Go.Lib.pow10Tab) : Gw w := fun _ b => Go.Joins.var_stays gPow h b (Nat.le_refl _)
end Go.Proofs.YtmopfnhjooopkaaGreatDoor.Dy
