import Derived.Test.YtemfndmffpalfaaDf11
namespace Go.Proofs.Ytemfndmffpalfaa.Df
open Go.RowKit Tn Go.Proofs.Ytemfndmffpalfaa.Ta
open Go.Proofs.Ytemfndmffpalfaa.Mo (Ri wrapI)

set_option maxRecDepth 100000 in
set_option maxHeartbeats 3200000 in
theorem RFloats_k (f M : Int) (a b o c L n N : Nat) (g : Nat → Nat → Int) (r : Nat) (w : World) (h1 : 0 < L) (h2 : L ≤ 8) (h3 : 0 ≤ f) (h4 : f ≤ 130) (h5 : f + n ≤ 131) (h6 : a < n) (hM : M = f + n - 1) (hN : N = n - a + 1) (hs : floatBits .sub .f64 r r = some 0) (hr : (FloatKind.f64.format.order r 0 == some .lt) = false) (CK : ∀ x, Below w.heap.size w x → Calls Try.prog 11 #[.agg #[.int .i64 f, .slice (some ⟨b, o, none⟩) L c], .int .i64 (f + a)] x fun e w' => e = .returned (.int .i64 0) ∧ Below x.heap.size x w') (LA : ∀ x, Below w.heap.size w x → Calls Try.prog 12 #[.agg #[.int .i64 f, .slice (some ⟨b, o, none⟩) L c]] x fun e w' => e = .returned (.int .i64 M) ∧ Below x.heap.size x w') (CL : ∀ d, d < L → ∃ a cap, w.cell? ⟨b, o + d, none⟩ = some (.slice a n cap) ∧ ∃ b' o', a = some ⟨b', o', none⟩ ∧ ∀ j, j < n → w.cell? ⟨b', o' + j, none⟩ = some (.int .i64 (g d j)) ∧ 0 ≤ g d j ∧ g d j ≤ 10000000) : Calls Try.prog 5 #[.agg #[.int .i64 f, .slice (some ⟨b, o, none⟩) L c], .int .i64 (f + a), .float .f64 r] w fun e w' => (∃ v, e = .returned (.tuple #[v, .int .i64 0]) ∧ Fr w' v N (fun i x => Rep (lo r g a L i) x)) ∧ Below w.heap.size w w' := by
  have K := Blk.new w #[.int .i64 f, .slice (some ⟨b, o, none⟩) L c] 24
  have pr : Below w.heap.size w (w.alloc (.cells #[.int .i64 f, .slice (some ⟨b, o, none⟩) L c] 24)) := (Below.refl _ _).alloc (Nat.le_refl _) _
  obtain ⟨age, hage⟩ : ∃ age : Int, f + (a : Int) = age := ⟨_, rfl⟩
  rw [hage] at CK ⊢
  have n132 : N ≤ 132 := by omega
  have N2 : 2 ≤ N := by omega
  have HM : Hid (M = f + n - 1 ∧ N = n - a + 1 ∧ f + n ≤ 131 ∧ a < n ∧ f + (a : Int) = age ∧ 0 < L ∧ L ≤ 8 ∧ 0 ≤ f ∧ f ≤ 130) := ⟨hM, hN, h5, h6, hage, h1, h2, h3, h4⟩
  clear hM hN h5 h6 hage h1 h2 h3 h4
  have e1 := fun W : World => run_float_arith (P := Try.prog) W .sub 25 .f64 _ _ _ hs
  have t1 : (FloatKind.f64.format.order 0 0 != some .eq) = false := by rfl
  clear hs
  have sf : ∀ (W : World) (p : Addr) (x : Nat) (m : Mode), (store p (.float .f64 x) m).run Try.prog W = stored Try.prog W p (.float .f64 x) m := fun W p x m => run_store Try.prog W p (.float .f64 x) m rfl
  go_enter Try.func5, Try.ntmps5
  go_wp2_with (first
    | (go_at_call 11; (refine (CK _ pr).mono ?_); (rintro e w1 ⟨rfl, b1⟩); (have p1 := bel' pr b1); (have K1 := K.below b1 K.lt); (have k01 := K1.at 0); (have k11 := K1.at 1); (simp at k01 k11))
    | fail)
  have al := (Below.refl w1.heap.size w1).alloc (Nat.le_refl _) (.cells #[.float .f64 r] 25)
  have V0 : Fv (w1.alloc (.cells #[.float .f64 r] 25)) (w.heap.size + 1) (.slice (some ⟨w1.heap.size, 0, none⟩) 1 1) 1 (fun i x => Rep (lo r g a L i) x) := by
    refine ⟨[.float .f64 r], ⟨rfl, Or.inr ⟨w1.heap.size, 1, #[.float .f64 r], rfl, K1.lt, heap_alloc_new _ _, Nat.le_refl _, by decide, rfl, rfl⟩⟩, rfl, fun i hi => ?_⟩
    obtain rfl : i = 0 := by omega
    exact ⟨r, rfl, Or.inl rfl⟩
  have K0 := K1.below al K1.lt
  have q0 := bel' p1 al
  generalize w1.alloc (.cells #[.float .f64 r] 25) = W0 at *
  generalize w1.heap.size = B at *
  clear al CK hr K pr K1 k01 k11 p1 b1 e1 t1
  go_loopw [10, 9] (fun i v wr => ∃ k : Nat, i = .int .i64 (k : Int) ∧ k + 1 ≤ N ∧ Fv wr (w.heap.size + 1) v (k + 1) (fun i x => Rep (lo r g a L i) x) ∧ Blk wr w.heap.size #[.int .i64 f, .slice (some ⟨b, o, none⟩) L c] 24 ∧ Below w.heap.size w wr) (fun i _ _ => N - (intOf i).toNat)
  case atStart => exact ⟨0, rfl, by omega, V0, K0, q0⟩
  case round =>
    clear V0 K0 q0
    obtain ⟨k, rfl, hk, F, K, pw⟩ := hrel
    obtain ⟨m1, m2, m3, m4, m5, m6, m7, m8, m9⟩ := HM.out
    have k0 := K.at 0
    have k1 := K.at 1
    simp at k0 k1
    have y1 : IntKind.i64.wrap (age + (k : Int)) = age + (k : Int) := wrapI _ (by omega) (by omega)
    by_cases kn : k + 2 ≤ N
    · have kn' : age + (k : Int) ≤ M := by omega
      have y2 : IntKind.i64.wrap (age + (k : Int) - f) = ((a + k : Nat) : Int) := by rw [show age + (k : Int) - f = ((a + k : Nat) : Int) by omega]; exact wrapI _ (by omega) (by omega)
      have ak : a + k < n := by omega
      have ak' : ((a + k : Nat) : Int) < (n : Int) := by omega
      have HN : Hid (k + 2 ≤ N ∧ N ≤ 132 ∧ L ≤ 8 ∧ a + k < n) := ⟨kn, n132, m7, ak⟩
      clear m1 m2 m3 m4 m5 m6 m7 m8 m9 kn hk
      generalize hT : a + k = t at *
      have HT : Hid (a + k = t) := hT
      clear hT
      go_wp2_with (first
        | (go_at_call 12; (refine (LA _ pw).mono ?_); (rintro e w4 ⟨rfl, b4⟩); (have F := F.grow b4); (have K := K.below b4 K.lt); (have pw := bel' pw b4))
        | fail)
      go_loopw [12, 11] (fun i v wr => ∃ j x : Nat, i = .int .i64 (j : Int) ∧ j ≤ L ∧ v = .float .f64 x ∧ Rep (pO (fun d => g d t) j) x ∧ Fv wr (w.heap.size + 1) u9 (k + 1) (fun i x => Rep (lo r g a L i) x) ∧ Blk wr w.heap.size #[.int .i64 f, .slice (some ⟨b, o, none⟩) L c] 24 ∧ Below w.heap.size w wr) (fun i _ _ => L - (intOf i).toNat)
      case atStart => exact ⟨0, _, rfl, Nat.zero_le _, rfl, Or.inl rfl, F, K, pw⟩
      case round =>
        clear F K pw k0 k1
        obtain ⟨j, x, rfl, hj, rfl, hx, F, K, pw⟩ := hrel
        have k0 := K.at 0
        have k1 := K.at 1
        simp at k0 k1
        obtain ⟨n1, n2, n3, n4⟩ := HN.out
        by_cases jl : j < L
        · have jl' : (j : Int) < (L : Int) := by omega
          have j8 : (j : Int) ≤ 8 := by omega
          obtain ⟨a9, cap, c0, b', o', rfl, hc⟩ := CL j jl
          obtain ⟨c1, g0, g1⟩ := hc t n4
          have c2 := (pw.cell (p := ⟨b, o + j, none⟩) (World.block_lt_of_cell? w _ c0)).trans c0
          have c3 := (pw.cell (p := ⟨b', o' + t, none⟩) (World.block_lt_of_cell? w _ c1)).trans c1
          have y3 : IntKind.i64.wrap (10000000 - g j t) = 10000000 - g j t := wrapI _ (by omega) (by omega)
          have HJ : Hid (j + 1 ≤ L) := jl
          have st : ∀ q y : Nat, Rep (mulO (pO (fun d => g d t) j) (qO (g j t))) y → Rep (pO (fun d => g d t) (j + 1)) y := fun _ _ h => h
          have HX : Hid (Rep (pO (fun d => g d t) j) x) := hx
          have hG0 : 0 ≤ 10000000 - g j t := by omega
          clear n1 n2 n3 n4 jl hj hc c0 c1 g0 g1 CL HM hx kn'
          obtain ⟨z, hq⟩ := quo_some hG0
          have hz : Hid (Rep (qO (g j t)) z) := Or.inl hq
          have e1 := fun W : World => run_float_arith (P := Try.prog) W .quo 25 .f64 _ _ _ hq
          clear hq
          rcases hm : floatBits .mul .f64 x z with _ | y
          · have e2 := fun W => run_nan .mul (Or.inl rfl) 25 _ _ hm W
            have HM2 : Hid (floatBits .mul .f64 x z = none) := hm
            clear hm
            go_wp2_with fail
            go_region_held3 (fun x => x.cell? ⟨w.heap.size, 0, none⟩ = some (.int .i64 f) ∧ x.cell? ⟨w.heap.size, 1, none⟩ = some (.slice (some ⟨b, o, none⟩) L c) ∧ x.cell? ⟨b, o + j, none⟩ = some (.slice (some ⟨b', o', none⟩) n cap) ∧ x.cell? ⟨b', o' + t, none⟩ = some (.int .i64 (g j t))) (go_keep) (fail)
            go_wp2_with fail
            go_roundw
            case rel => exact ⟨j + 1, _, by go_num, HJ.out, rfl, st 0 _ (HX.out.mul_none hz.out HM2.out (nw_nan _ _ _)), F.grow (by first | exact Below.refl _ _ | exact (Below.refl _ _).drew | exact (Below.refl _ _).drew.drew | exact (Below.refl _ _).drew.drew.drew), K.below (by first | exact Below.refl _ _ | exact (Below.refl _ _).drew | exact (Below.refl _ _).drew.drew | exact (Below.refl _ _).drew.drew.drew) K.lt, bel' pw (by first | exact Below.refl _ _ | exact (Below.refl _ _).drew | exact (Below.refl _ _).drew.drew | exact (Below.refl _ _).drew.drew.drew)⟩
            case measure => simp [intOf]; have := HJ.out; omega
          · have e2 := fun W : World => run_float_arith (P := Try.prog) W .mul 25 .f64 _ _ _ hm
            have HM2 : Hid (floatBits .mul .f64 x z = some y) := hm
            clear hm
            go_wp2_with fail
            go_region_held3 (fun x => x.cell? ⟨w.heap.size, 0, none⟩ = some (.int .i64 f) ∧ x.cell? ⟨w.heap.size, 1, none⟩ = some (.slice (some ⟨b, o, none⟩) L c) ∧ x.cell? ⟨b, o + j, none⟩ = some (.slice (some ⟨b', o', none⟩) n cap) ∧ x.cell? ⟨b', o' + t, none⟩ = some (.int .i64 (g j t))) (go_keep) (fail)
            go_wp2_with fail
            go_roundw
            case rel => exact ⟨j + 1, y, by go_num, HJ.out, rfl, st 0 _ (HX.out.mul_some hz.out HM2.out), F.grow (by first | exact Below.refl _ _ | exact (Below.refl _ _).drew | exact (Below.refl _ _).drew.drew | exact (Below.refl _ _).drew.drew.drew), K.below (by first | exact Below.refl _ _ | exact (Below.refl _ _).drew | exact (Below.refl _ _).drew.drew | exact (Below.refl _ _).drew.drew.drew) K.lt, bel' pw (by first | exact Below.refl _ _ | exact (Below.refl _ _).drew | exact (Below.refl _ _).drew.drew | exact (Below.refl _ _).drew.drew.drew)⟩
            case measure => simp [intOf]; have := HJ.out; omega
        · obtain rfl : j = L := by omega
          have jl' : ¬ (j : Int) < (j : Int) := by omega
          obtain ⟨bo, co, ho, hl, hmx, hc⟩ := F.fr (by omega)
          obtain ⟨xk, ck, rk⟩ := hc k (by omega)
          have rk' : Hid (Rep (lo r g a j k) xk) := rk
          have HX : Hid (Rep (pO (fun d => g d t) j) x) := hx
          have st : ∀ y : Nat, Rep (mulO (lo r g a j k) (pO (fun d => g d t) j)) y → Rep (lo r g a j (k + 1)) y := fun y h => by
            show Rep (mulO (lo r g a j k) (pO (fun i => g i (a + k)) j)) y
            rw [HT.out]; exact h
          have i1 : (k : Int) < ((k + 1 : Nat) : Int) := by omega
          have HN2 : Hid (k + 2 ≤ N ∧ N ≤ 132) := ⟨n1, n2⟩
          have k133 : k ≤ 131 := by omega
          clear n1 n2 n3 n4 hj CL HM hx rk jl hc
          subst ho
          rcases hm : floatBits .mul .f64 xk x with _ | y
          · have e2 := fun W => run_nan .mul (Or.inl rfl) 25 _ _ hm W
            have HM2 : Hid (floatBits .mul .f64 xk x = none) := hm
            clear hm
            go_wp2_with (first
              | (at_builtin; (refine wpList_push_float rfl _ _ rfl _ (k + 1) (fun i x => Rep (lo r g a j i) x) rfl (w.heap.size + 1) (F.grow (((Below.refl _ _).alloc (Nat.le_refl _) _).drew)) (by omega) _ _ (nw xk x wr) rfl (by simp) (st _ (rk'.out.mul_none HX.out HM2.out (nw_nan _ _ _))) (Nat.le_trans K.lt (by simp)) ?_); (intro l' w5 F5 b5); (have p5 := (bel' pw (((Below.refl _ _).alloc (Nat.le_refl _) _).drew)).trans (Below.mono b5 (by omega))); (have K5 := (K.below (((Below.refl _ _).alloc (Nat.le_refl _) _).drew) K.lt).below b5 (by omega)))
              | fail)
            go_roundw
            case rel => exact ⟨k + 1, by go_num, by have := HN2.out; omega, F5, K5, p5⟩
            case measure => simp [intOf]; have := HN2.out; omega
          · have e2 := fun W : World => run_float_arith (P := Try.prog) W .mul 25 .f64 _ _ _ hm
            have HM2 : Hid (floatBits .mul .f64 xk x = some y) := hm
            clear hm
            go_wp2_with (first
              | (at_builtin; (refine wpList_push_float rfl _ _ rfl _ (k + 1) (fun i x => Rep (lo r g a j i) x) rfl (w.heap.size + 1) (F.grow ((Below.refl _ _).alloc (Nat.le_refl _) _)) (by omega) _ _ _ rfl (by simp) (st _ (rk'.out.mul_some HX.out HM2.out)) (Nat.le_trans K.lt (by simp)) ?_); (intro l' w5 F5 b5); (have p5 := (bel' pw ((Below.refl _ _).alloc (Nat.le_refl _) _)).trans (Below.mono b5 (by omega))); (have K5 := (K.alloc _).below b5 (by omega)))
              | fail)
            go_roundw
            case rel => exact ⟨k + 1, by go_num, by have := HN2.out; omega, F5, K5, p5⟩
            case measure => simp [intOf]; have := HN2.out; omega
    · have kn' : ¬ age + (k : Int) ≤ M := by omega
      obtain rfl : N = k + 1 := by omega
      clear m1 m2 m3 m4 m5 m6 m7 m8 m9 CL HM
      go_wp2_with (first
        | (go_at_call 12; (refine (LA _ pw).mono ?_); (rintro e w4 ⟨rfl, b4⟩); (have F := F.grow b4); (have pw := bel' pw b4))
        | fail)
      go_ret2
      exact ⟨⟨_, rfl, F.fr (by omega)⟩, pw⟩
end Go.Proofs.Ytemfndmffpalfaa.Df
