import Derived.Test.YtmopfnhjooopkaaGreatDoorPart38
import Derived.Test.YtmopfnhjooopkaaGreatDoorPart37
import Derived.Test.YtmopfnhjooopkaaGreatDoorPart39

namespace Go.Proofs.YtmopfnhjooopkaaGreatDoor.Mo
open Go.RowKit

set_option maxRecDepth 100000 in
set_option maxHeartbeats 3200000 in
theorem yearly_a0 (k off : Int) (N : Nat) (am : Nat → Int) (gr r : Rat) (w : World) (hN : N ≤ 130) (hoff : off = 0)
    (FN : ∀ x (j : Nat), j < N → Below w.heap.size w x → Calls Tryz.prog 84 #[.int .i64 ((j : Int) + 1)] x fun e w' => e = .returned (.int .i64 (am (j + 1))) ∧ w' = x)
    (OI : ∀ x (j : Nat), j < N → Calls Tryz.prog 29 #[.int .i64 (am (j + 1))] x fun e w' => ∃ a l c a' l' c', e = .returned (.agg #[.bool false, .slice a l c, .slice a' l' c']) ∧ Nn w' a l c (am (j + 1)) ∧ Below x.heap.size x w')
    (GR : ∀ x, Calls Tryz.prog 182 #[.int .i64 k] x (Fa gr x))
    (VA : ∀ x g2 v, Below w.heap.size w x → Py x g2 N N off am → PF x v gr → Calls Tryz.prog 181 #[.slice (some ⟨g2, 0, none⟩) N N, v, .int .i64 0] x (Fa r x)) :
    Calls Tryz.prog 143 #[.int .i64 k, .int .i64 (N : Int), .bool false, .func (.func 84) #[] #[]] w (Fa r w) := by
  have HO : Hid (off = 0) := hoff
  clear hoff
  have KR := Rb.new w (.bool false) (.slice none 0 0) (.slice none 0 0) 57
  have pr : Below w.heap.size w (w.alloc (.cells #[.bool false, .slice none 0 0, .slice none 0 0] 57)) := (Below.refl _ _).alloc (Nat.le_refl _) _
  have HN : Hid (N ≤ 130) := hN
  go_enter Tryz.func143, Tryz.ntmps143
  go_wp2_with (first
    | (at_make; refine make_pays rfl _ _ rfl N rfl rfl (by have := HN.out; omega) ?_; intro cs hs hi he; have K0 := Blk.new (w.alloc (.cells #[.bool false, .slice none 0 0, .slice none 0 0] 57)) cs 195; have KR0 := KR.alloc (.cells cs 195); have p0 := pr.alloc pr.size (.cells cs 195))
    | fail)
  have S0 : Py ((w.alloc (.cells #[.bool false, .slice none 0 0, .slice none 0 0] 57)).alloc (.cells cs 195)) (w.alloc (.cells #[.bool false, .slice none 0 0, .slice none 0 0] 57)).heap.size N 0 off am := ⟨cs, K0, hs, hi, fun j hj => absurd hj (by omega)⟩
  simp only [World.size_alloc] at S0
  generalize (w.alloc (.cells #[.bool false, .slice none 0 0, .slice none 0 0] 57)).alloc (.cells cs 195) = W at *
  have S0' : Py W (w.heap.size + 1) N 0 off am := S0
  clear S0 K0 hs hi he KR pr
  generalize hg : w.heap.size + 1 = g at *
  have HG : Hid (w.heap.size ≠ g ∧ w.heap.size ≤ g) := ⟨by omega, by omega⟩
  clear hg
  go_loopw [11, 16] (fun _ i wr => ∃ j : Nat, i = .int .i64 j ∧ j ≤ N ∧ Py wr g N j off am ∧ Rb wr w.heap.size (.bool false) (.slice none 0 0) (.slice none 0 0) ∧ Below w.heap.size w wr) (fun _ i _ => N - (RowKit.intOf i).toNat)
  case atStart => exact ⟨0, rfl, Nat.zero_le _, S0', KR0, p0⟩
  case round =>
    clear S0' KR0 p0
    obtain ⟨j, rfl, hj, S, KR, p⟩ := hrel
    by_cases lt : j < N
    · have F1 := fun x b => FN x j lt b
      have O1 := fun x => OI x j lt
      have y9 : IntKind.i64.wrap ((j : Int) + 1) = (j : Int) + 1 := wrapIc _ (by omega) (by omega)
      have y8 : IntKind.i64.wrap (1 + (j : Int)) = 1 + (j : Int) := wrapIc _ (by omega) (by omega)
      have i1 : (0 : Int) ≤ (j : Int) := by omega
      have i2 : ((j : Int)).toNat = j := by omega
      have i3 : (j : Int) < (N : Int) := by omega
      have HK : Hid (j + 1 ≤ N) := lt
      obtain ⟨cs, K, hs, hi, fj⟩ := S
      have S : Py wr g N j off am := ⟨cs, K, hs, hi, fj⟩
      obtain ⟨v0, e0⟩ : ∃ v, cs[j * 4]? = some v := ⟨_, Array.getElem?_eq_getElem (by omega)⟩
      obtain ⟨v1, e1⟩ : ∃ v, cs[j * 4 + 1]? = some v := ⟨_, Array.getElem?_eq_getElem (by omega)⟩
      obtain ⟨v2, e2⟩ : ∃ v, cs[j * 4 + 2]? = some v := ⟨_, Array.getElem?_eq_getElem (by omega)⟩
      obtain ⟨v3, e3⟩ : ∃ v, cs[j * 4 + 3]? = some v := ⟨_, Array.getElem?_eq_getElem (by omega)⟩
      generalize hA : am (j + 1) = A at *
      clear FN OI GR VA hj hs hi fj lt hN
      go_wp2_with (first
        | (go_at_call 29; (refine (O1 _).mono ?_); (rintro e w3 ⟨a, l, c, a', l', c', rfl, n3, b3⟩); (have K3 := K.below b3 K.lt); (have z0 := (K3.at (j * 4)).trans e0); (have z1 := (K3.at (j * 4 + 1)).trans e1); (have z2 := (K3.at (j * 4 + 2)).trans e2); (have z3 := (K3.at (j * 4 + 3)).trans e3); (have y0 := K3.free (j * 4)); (have y1 := K3.free (j * 4 + 1)); (have y2 := K3.free (j * 4 + 2)); (have y3 := K3.free (j * 4 + 3)))
        | (go_at_call 84; (refine (F1 _ p).mono ?_); (rintro e w2 ⟨rfl, hw2⟩); subst w2)
        | fail)
      have Sn := (S.grow b3).push (a := a) (l := l) (c := c) (a' := a') (l' := l') (c' := c') (hA ▸ n3) (show j < N from HK.out)
      have he : 1 - off + (j : Int) = (1 + (j : Int)) := by rw [HO.out]; omega
      have hg := HG.out
      have pn := (((bel' p b3).setCell (p := ⟨g, j * 4, none⟩) hg.2 (.int .i64 (1 - off + (j : Int)))).setCell (p := ⟨g, j * 4 + 1, none⟩) hg.2 (.bool false)).setCell (p := ⟨g, j * 4 + 2, none⟩) hg.2 (.slice a l c)
      have pn := pn.setCell (p := ⟨g, j * 4 + 3, none⟩) hg.2 (.slice a' l' c')
      have KRn := (((KR.grow b3).skipi hg.1 (j * 4) (.int .i64 (1 - off + (j : Int)))).skipi hg.1 (j * 4 + 1) (.bool false)).skipi hg.1 (j * 4 + 2) (.slice a l c)
      have KRn := KRn.skipi hg.1 (j * 4 + 3) (.slice a' l' c')
      rw [he] at Sn pn KRn
      go_roundw
      case rel => exact ⟨j + 1, by go_num, HK.out, Sn, KRn, pn⟩
      case measure => simp [RowKit.intOf]; have := HK.out; omega
    · obtain rfl : j = N := by omega
      have V1 := fun x v b h h' => VA x g v b h h'
      clear FN OI VA hj hN
      go_wp2_with (first
        | (go_at_call 181; (have mk := b2); (refine (V1 _ _ (bel' p b2) (S.grow b2) t2).mono ?_); (rintro e w3 ⟨g3, a3, l3, c3, a3', l3', c3', rfl, t3, b3⟩); (have d3 := bel' b2 b3); (have R := KR.grow d3); (have q0 := R.c0); (have q1 := R.c1); (have q2 := R.c2); (have y0 := R.f0); (have y1 := R.f1); (have y2 := R.f2))
        | (go_at_call 182; (refine (GR _).mono ?_); (rintro e w2 ⟨g2, a2, l2, c2, a2', l2', c2', rfl, t2, b2⟩))
        | fail)
      obtain ⟨F0, F1, F2⟩ := R.put (.bool g3) (.slice a3 l3 c3) (.slice a3' l3' c3')
      exact bodyPost_ret (v := .agg #[.bool g3, .slice a3 l3 c3, .slice a3' l3' c3']) (by simp [results, Tryz.results143, go_sem, F0, F1, F2]) rfl ⟨g3, a3, l3, c3, a3', l3', c3', rfl, pfput t3 R, bset3 (bel' p d3) (Nat.le_refl _)⟩
set_option maxRecDepth 100000 in
set_option maxHeartbeats 3200000 in
theorem yearly_a1 (k off : Int) (N : Nat) (am : Nat → Int) (gr r : Rat) (w : World) (hN : N ≤ 130) (hoff : off = 1)
    (FN : ∀ x (j : Nat), j < N → Below w.heap.size w x → Calls Tryz.prog 84 #[.int .i64 ((j : Int) + 1)] x fun e w' => e = .returned (.int .i64 (am (j + 1))) ∧ w' = x)
    (OI : ∀ x (j : Nat), j < N → Calls Tryz.prog 29 #[.int .i64 (am (j + 1))] x fun e w' => ∃ a l c a' l' c', e = .returned (.agg #[.bool false, .slice a l c, .slice a' l' c']) ∧ Nn w' a l c (am (j + 1)) ∧ Below x.heap.size x w')
    (GR : ∀ x, Calls Tryz.prog 182 #[.int .i64 k] x (Fa gr x))
    (VA : ∀ x g2 v, Below w.heap.size w x → Py x g2 N N off am → PF x v gr → Calls Tryz.prog 181 #[.slice (some ⟨g2, 0, none⟩) N N, v, .int .i64 0] x (Fa r x)) :
    Calls Tryz.prog 143 #[.int .i64 k, .int .i64 (N : Int), .bool true, .func (.func 84) #[] #[]] w (Fa r w) := by
  have HO : Hid (off = 1) := hoff
  clear hoff
  have KR := Rb.new w (.bool false) (.slice none 0 0) (.slice none 0 0) 57
  have pr : Below w.heap.size w (w.alloc (.cells #[.bool false, .slice none 0 0, .slice none 0 0] 57)) := (Below.refl _ _).alloc (Nat.le_refl _) _
  have HN : Hid (N ≤ 130) := hN
  go_enter Tryz.func143, Tryz.ntmps143
  go_wp2_with (first
    | (at_make; refine make_pays rfl _ _ rfl N rfl rfl (by have := HN.out; omega) ?_; intro cs hs hi he; have K0 := Blk.new (w.alloc (.cells #[.bool false, .slice none 0 0, .slice none 0 0] 57)) cs 195; have KR0 := KR.alloc (.cells cs 195); have p0 := pr.alloc pr.size (.cells cs 195))
    | fail)
  have S0 : Py ((w.alloc (.cells #[.bool false, .slice none 0 0, .slice none 0 0] 57)).alloc (.cells cs 195)) (w.alloc (.cells #[.bool false, .slice none 0 0, .slice none 0 0] 57)).heap.size N 0 off am := ⟨cs, K0, hs, hi, fun j hj => absurd hj (by omega)⟩
  simp only [World.size_alloc] at S0
  generalize (w.alloc (.cells #[.bool false, .slice none 0 0, .slice none 0 0] 57)).alloc (.cells cs 195) = W at *
  have S0' : Py W (w.heap.size + 1) N 0 off am := S0
  clear S0 K0 hs hi he KR pr
  generalize hg : w.heap.size + 1 = g at *
  have HG : Hid (w.heap.size ≠ g ∧ w.heap.size ≤ g) := ⟨by omega, by omega⟩
  clear hg
  go_loopw [11, 16] (fun _ i wr => ∃ j : Nat, i = .int .i64 j ∧ j ≤ N ∧ Py wr g N j off am ∧ Rb wr w.heap.size (.bool false) (.slice none 0 0) (.slice none 0 0) ∧ Below w.heap.size w wr) (fun _ i _ => N - (RowKit.intOf i).toNat)
  case atStart => exact ⟨0, rfl, Nat.zero_le _, S0', KR0, p0⟩
  case round =>
    clear S0' KR0 p0
    obtain ⟨j, rfl, hj, S, KR, p⟩ := hrel
    by_cases lt : j < N
    · have F1 := fun x b => FN x j lt b
      have O1 := fun x => OI x j lt
      have y9 : IntKind.i64.wrap ((j : Int) + 1) = (j : Int) + 1 := wrapIc _ (by omega) (by omega)
      have y8 : IntKind.i64.wrap ((j : Int)) = (j : Int) := wrapIc _ (by omega) (by omega)
      have i1 : (0 : Int) ≤ (j : Int) := by omega
      have i2 : ((j : Int)).toNat = j := by omega
      have i3 : (j : Int) < (N : Int) := by omega
      have HK : Hid (j + 1 ≤ N) := lt
      obtain ⟨cs, K, hs, hi, fj⟩ := S
      have S : Py wr g N j off am := ⟨cs, K, hs, hi, fj⟩
      obtain ⟨v0, e0⟩ : ∃ v, cs[j * 4]? = some v := ⟨_, Array.getElem?_eq_getElem (by omega)⟩
      obtain ⟨v1, e1⟩ : ∃ v, cs[j * 4 + 1]? = some v := ⟨_, Array.getElem?_eq_getElem (by omega)⟩
      obtain ⟨v2, e2⟩ : ∃ v, cs[j * 4 + 2]? = some v := ⟨_, Array.getElem?_eq_getElem (by omega)⟩
      obtain ⟨v3, e3⟩ : ∃ v, cs[j * 4 + 3]? = some v := ⟨_, Array.getElem?_eq_getElem (by omega)⟩
      generalize hA : am (j + 1) = A at *
      clear FN OI GR VA hj hs hi fj lt hN
      go_wp2_with (first
        | (go_at_call 29; (refine (O1 _).mono ?_); (rintro e w3 ⟨a, l, c, a', l', c', rfl, n3, b3⟩); (have K3 := K.below b3 K.lt); (have z0 := (K3.at (j * 4)).trans e0); (have z1 := (K3.at (j * 4 + 1)).trans e1); (have z2 := (K3.at (j * 4 + 2)).trans e2); (have z3 := (K3.at (j * 4 + 3)).trans e3); (have y0 := K3.free (j * 4)); (have y1 := K3.free (j * 4 + 1)); (have y2 := K3.free (j * 4 + 2)); (have y3 := K3.free (j * 4 + 3)))
        | (go_at_call 84; (refine (F1 _ p).mono ?_); (rintro e w2 ⟨rfl, hw2⟩); subst w2)
        | fail)
      have Sn := (S.grow b3).push (a := a) (l := l) (c := c) (a' := a') (l' := l') (c' := c') (hA ▸ n3) (show j < N from HK.out)
      have he : 1 - off + (j : Int) = (j : Int) := by rw [HO.out]; omega
      have hg := HG.out
      have pn := (((bel' p b3).setCell (p := ⟨g, j * 4, none⟩) hg.2 (.int .i64 (1 - off + (j : Int)))).setCell (p := ⟨g, j * 4 + 1, none⟩) hg.2 (.bool false)).setCell (p := ⟨g, j * 4 + 2, none⟩) hg.2 (.slice a l c)
      have pn := pn.setCell (p := ⟨g, j * 4 + 3, none⟩) hg.2 (.slice a' l' c')
      have KRn := (((KR.grow b3).skipi hg.1 (j * 4) (.int .i64 (1 - off + (j : Int)))).skipi hg.1 (j * 4 + 1) (.bool false)).skipi hg.1 (j * 4 + 2) (.slice a l c)
      have KRn := KRn.skipi hg.1 (j * 4 + 3) (.slice a' l' c')
      rw [he] at Sn pn KRn
      go_roundw
      case rel => exact ⟨j + 1, by go_num, HK.out, Sn, KRn, pn⟩
      case measure => simp [RowKit.intOf]; have := HK.out; omega
    · obtain rfl : j = N := by omega
      have V1 := fun x v b h h' => VA x g v b h h'
      clear FN OI VA hj hN
      go_wp2_with (first
        | (go_at_call 181; (have mk := b2); (refine (V1 _ _ (bel' p b2) (S.grow b2) t2).mono ?_); (rintro e w3 ⟨g3, a3, l3, c3, a3', l3', c3', rfl, t3, b3⟩); (have d3 := bel' b2 b3); (have R := KR.grow d3); (have q0 := R.c0); (have q1 := R.c1); (have q2 := R.c2); (have y0 := R.f0); (have y1 := R.f1); (have y2 := R.f2))
        | (go_at_call 182; (refine (GR _).mono ?_); (rintro e w2 ⟨g2, a2, l2, c2, a2', l2', c2', rfl, t2, b2⟩))
        | fail)
      obtain ⟨F0, F1, F2⟩ := R.put (.bool g3) (.slice a3 l3 c3) (.slice a3' l3' c3')
      exact bodyPost_ret (v := .agg #[.bool g3, .slice a3 l3 c3, .slice a3' l3' c3']) (by simp [results, Tryz.results143, go_sem, F0, F1, F2]) rfl ⟨g3, a3, l3, c3, a3', l3', c3', rfl, pfput t3 R, bset3 (bel' p d3) (Nat.le_refl _)⟩
end Go.Proofs.YtmopfnhjooopkaaGreatDoor.Mo
