import Derived.Test.YtemfndmffpalfaaDf9
namespace Go.Proofs.Ytemfndmffpalfaa.Df
open Go.RowKit Tn Go.Proofs.Ytemfndmffpalfaa.Ta
open Go.Proofs.Ytemfndmffpalfaa.Mo (Ri wrapI)

/-- How many are there, by the rates g of cause and place. -/
def lo (r : Nat) (g : Nat → Nat → Int) (a L : Nat) : Nat → Option Nat
  | 0 => some r
  | n + 1 => mulO (lo r g a L n) (pO (fun i => g i (a + n)) L)
theorem bskip {w : World} {n b : Nat} {c : Array Value} {t : TypeId} (h : Blk w n c t) (hb : b ≠ n) (i : Nat) (v : Value) : Blk (w.setCell ⟨b, i, none⟩ v) n c t := by
  have h' : w.heap[n]? = some (.cells c t (0, 0)) := h
  show (w.setCell ⟨b, i, none⟩ v).heap[n]? = _
  simp [World.setCell, Array.getElem?_modify, h', hb]
set_option maxRecDepth 100000 in
set_option maxHeartbeats 3200000 in
theorem Floats_k (f M : Int) (a b o c L n N : Nat) (g : Nat → Nat → Int) (r : Nat) (w : World) (h1 : 0 < L) (h2 : L ≤ 8) (h3 : 0 ≤ f) (h4 : f ≤ 130) (h5 : f + n ≤ 131) (h6 : a < n) (hM : M = f + n - 1) (hN : N = n - a + 1) (hr : (FloatKind.f64.format.order r 0 == some .lt) = false) (CK : ∀ x, Below w.heap.size w x → Calls Try.prog 7 #[.agg #[.int .i64 f, .slice (some ⟨b, o, none⟩) L c], .int .i64 (f + a)] x fun e w' => e = .returned (.int .i64 0) ∧ Below x.heap.size x w') (NA : ∀ x, Calls Try.prog 8 #[.float .f64 r] x fun e w' => e = .returned (.bool false) ∧ w' = x) (IF : ∀ x, Calls Try.prog 9 #[.float .f64 r, .int .i64 0] x fun e w' => e = .returned (.bool false) ∧ w' = x) (LA : ∀ x, Below w.heap.size w x → Calls Try.prog 10 #[.agg #[.int .i64 f, .slice (some ⟨b, o, none⟩) L c]] x fun e w' => e = .returned (.int .i64 M) ∧ Below x.heap.size x w') (CL : ∀ d, d < L → ∃ a cap, w.cell? ⟨b, o + d, none⟩ = some (.slice a n cap) ∧ ∃ b' o', a = some ⟨b', o', none⟩ ∧ ∀ j, j < n → w.cell? ⟨b', o' + j, none⟩ = some (.int .i64 (g d j)) ∧ 0 ≤ g d j ∧ g d j ≤ 10000000) : Calls Try.prog 4 #[.agg #[.int .i64 f, .slice (some ⟨b, o, none⟩) L c], .int .i64 (f + a), .float .f64 r] w fun e w' => (∃ v, e = .returned (.tuple #[v, .int .i64 0]) ∧ Fr w' v N (fun i x => Rep (lo r g a L i) x)) ∧ Below w.heap.size w w' := by
  have K := Blk.new w #[.int .i64 f, .slice (some ⟨b, o, none⟩) L c] 24
  have pr : Below w.heap.size w (w.alloc (.cells #[.int .i64 f, .slice (some ⟨b, o, none⟩) L c] 24)) := (Below.refl _ _).alloc (Nat.le_refl _) _
  obtain ⟨age, hage⟩ : ∃ age : Int, f + (a : Int) = age := ⟨_, rfl⟩
  rw [hage] at CK ⊢
  have x1 : IntKind.i64.wrap (M - age) = M - age := wrapI _ (by omega) (by omega)
  have x2 : IntKind.i64.wrap (M - age + 2) = (N : Int) := by rw [show M - age + 2 = (N : Int) by omega]; exact wrapI _ (by omega) (by omega)
  have n132 : N ≤ 132 := by omega
  have N2 : 2 ≤ N := by omega
  have HM : Hid (M = f + n - 1 ∧ N = n - a + 1 ∧ f + n ≤ 131 ∧ a < n ∧ f + (a : Int) = age ∧ 0 < L ∧ L ≤ 8 ∧ 0 ≤ f ∧ f ≤ 130) := ⟨hM, hN, h5, h6, hage, h1, h2, h3, h4⟩
  clear hM hN h5 h6 hage h1 h2
  have sf : ∀ (W : World) (p : Addr) (x : Nat) (m : Mode), (store p (.float .f64 x) m).run Try.prog W = stored Try.prog W p (.float .f64 x) m := fun W p x m => run_store Try.prog W p (.float .f64 x) m rfl
  go_enter Try.func4, Try.ntmps4
  go_wp2_with (first
    | (at_make; refine wpList_make_floats rfl _ _ rfl N rfl rfl (by omega) ?_; intro w5 F5 b5; (have p5 := bel' p4 b5); (have K5 := K4.below b5 K4.lt); (have F0 := F5 (fun i x => Rep (lo r g a L i) x)); obtain ⟨z5, cz, fz, _⟩ := F0.cell (show 0 < N by omega))
    | (go_at_call 10; (have mk2 := p1); (refine (LA _ p1).mono ?_); (rintro e w4 ⟨rfl, b4⟩); (have p4 := bel' p1 b4); (have K4 := K1.below b4 K1.lt); (have k04 := K4.at 0); (have k14 := K4.at 1); (simp at k04 k14))
    | (go_at_call 9; (refine (IF _).mono ?_); (rintro e w3 ⟨rfl, h3⟩); (subst h3))
    | (go_at_call 8; (refine (NA _).mono ?_); (rintro e w2 ⟨rfl, h2⟩); (subst h2))
    | (go_at_call 7; (refine (CK _ pr).mono ?_); (rintro e w1 ⟨rfl, b1⟩); (have p1 := bel' pr b1); (have K1 := K.below b1 K.lt); (have k01 := K1.at 0); (have k11 := K1.at 1); (simp at k01 k11))
    | fail)
  have LB : w.heap.size < w4.heap.size := K4.lt
  have G0 := F0.put r (Or.inl rfl)
  have K0 := bskip K5 (show w4.heap.size ≠ w.heap.size by omega) 0 (.float .f64 r)
  have q0 := p5.setCell (p := ⟨w4.heap.size, 0, none⟩) (show w.heap.size ≤ w4.heap.size by omega) (.float .f64 r)
  generalize w5.setCell ⟨w4.heap.size, 0, none⟩ (.float .f64 r) = W0 at *
  generalize w4.heap.size = B at *
  have HB : Hid (w.heap.size < B) := LB
  clear LB F5 b5 p5 K5 F0 cz fz K4 k04 k14 p4 b4 mk2 LA K1 k01 k11 p1 b1 CK NA IF hr K pr x1 x2 h3 h4
  go_loopw [42] (fun i wr => ∃ k : Nat, i = .int .i64 (k : Int) ∧ k + 1 ≤ N ∧ Fo wr B N (k + 1) (fun i x => Rep (lo r g a L i) x) ∧ Blk wr w.heap.size #[.int .i64 f, .slice (some ⟨b, o, none⟩) L c] 24 ∧ Below w.heap.size w wr) (fun i _ => N - (intOf i).toNat)
  case atStart => exact ⟨0, rfl, by omega, G0, K0, q0⟩
  case round =>
    clear G0 K0 q0
    obtain ⟨k, rfl, hk, F, K, pw⟩ := hrel
    obtain ⟨m1, m2, m3, m4, m5, m6, m7, m8, m9⟩ := HM.out
    have hB := HB.out
    have k0 := K.at 0
    have k1 := K.at 1
    simp at k0 k1
    by_cases kn : k + 2 ≤ N
    · have kn' : (k : Int) < (N : Int) - 1 := by omega
      have y1 : IntKind.i64.wrap (age - f) = (a : Int) := by rw [show age - f = (a : Int) by omega]; exact wrapI _ (by omega) (by omega)
      have y2 : IntKind.i64.wrap ((a : Int) + (k : Int)) = ((a + k : Nat) : Int) := by rw [show (a : Int) + (k : Int) = ((a + k : Nat) : Int) by omega]; exact wrapI _ (by omega) (by omega)
      have ak : a + k < n := by omega
      have ak' : ((a + k : Nat) : Int) < (n : Int) := by omega
      have HN : Hid (k + 2 ≤ N ∧ N ≤ 132 ∧ L ≤ 8 ∧ a + k < n) := ⟨kn, n132, m7, ak⟩
      clear m1 m2 m3 m4 m5 m6 m7 m8 m9 kn hk
      generalize hT : a + k = t at *
      have HT : Hid (a + k = t) := hT
      clear hT
      go_wp2_with fail
      go_loopw [48, 11] (fun i v wr => ∃ j x : Nat, i = .int .i64 (j : Int) ∧ j ≤ L ∧ v = .float .f64 x ∧ Rep (pO (fun d => g d t) j) x ∧ Fo wr B N (k + 1) (fun i x => Rep (lo r g a L i) x) ∧ Blk wr w.heap.size #[.int .i64 f, .slice (some ⟨b, o, none⟩) L c] 24 ∧ Below w.heap.size w wr) (fun i _ _ => L - (intOf i).toNat)
      case atStart => exact ⟨0, _, rfl, Nat.zero_le _, rfl, Or.inl rfl, F, K, pw⟩
      case round =>
        clear F K pw k0 k1
        obtain ⟨j, x, rfl, hj, rfl, hx, F, K, pw⟩ := hrel
        have k0 := K.at 0
        have k1 := K.at 1
        simp at k0 k1
        obtain ⟨n1, n2, n3, n4⟩ := HN.out
        by_cases jl : j < L
        · have jl' : (j : Int) < (L : Int) := by omega
          have j8 : (j : Int) ≤ 8 := by omega
          obtain ⟨a9, cap, c0, b', o', rfl, hc⟩ := CL j jl
          obtain ⟨c1, g0, g1⟩ := hc t n4
          have c2 := (pw.cell (p := ⟨b, o + j, none⟩) (World.block_lt_of_cell? w _ c0)).trans c0
          have c3 := (pw.cell (p := ⟨b', o' + t, none⟩) (World.block_lt_of_cell? w _ c1)).trans c1
          have y3 : IntKind.i64.wrap (10000000 - g j t) = 10000000 - g j t := wrapI _ (by omega) (by omega)
          have HJ : Hid (j + 1 ≤ L) := jl
          have st : ∀ q y : Nat, Rep (mulO (pO (fun d => g d t) j) (qO (g j t))) y → Rep (pO (fun d => g d t) (j + 1)) y := fun _ _ h => h
          have HX : Hid (Rep (pO (fun d => g d t) j) x) := hx
          clear n1 n2 n3 n4 jl hj hc c0 c1 g0 g1 CL HM HB hx kn'
          rcases hq : floatBits .quo .f64 (floatOfInt .f64 (10000000 - g j t)) 4711630319722168320 with _ | z
          · have hz : Hid (∀ W, Rep (qO (g j t)) (nw (floatOfInt .f64 (10000000 - g j t)) 4711630319722168320 W)) := fun W => Or.inr ⟨hq, nw_nan _ _ _⟩
            have e1 := fun W => run_nan .quo (Or.inr (Or.inl rfl)) 25 _ _ hq W
            have hm : ∀ W, floatBits .mul .f64 x (nw (floatOfInt .f64 (10000000 - g j t)) 4711630319722168320 W) = none := fun W => mul_nan (Or.inr (nw_nan _ _ _))
            have e2 := fun W V => run_nan .mul (Or.inl rfl) 25 _ _ (hm V) W
            have HM2 : Hid (∀ W, floatBits .mul .f64 x (nw (floatOfInt .f64 (10000000 - g j t)) 4711630319722168320 W) = none) := hm
            clear hq hm
            go_wp2_with fail
            go_roundw
            case rel => exact ⟨j + 1, _, by go_num, HJ.out, rfl, st 0 _ (HX.out.mul_none (hz.out wr) (HM2.out wr) (nw_nan _ _ _)), F.grow ((Below.refl _ _).drew.drew), K.below ((Below.refl _ _).drew.drew) K.lt, bel' pw ((Below.refl _ _).drew.drew)⟩
            case measure => simp [intOf]; have := HJ.out; omega
          · have hz : Hid (Rep (qO (g j t)) z) := Or.inl hq
            have e1 := fun W : World => run_float_arith (P := Try.prog) W .quo 25 .f64 _ _ _ hq
            clear hq
            rcases hm : floatBits .mul .f64 x z with _ | y
            · have e2 := fun W => run_nan .mul (Or.inl rfl) 25 _ _ hm W
              have HM2 : Hid (floatBits .mul .f64 x z = none) := hm
              clear hm
              go_wp2_with fail
              go_roundw
              case rel => exact ⟨j + 1, _, by go_num, HJ.out, rfl, st 0 _ (HX.out.mul_none hz.out HM2.out (nw_nan _ _ _)), F.grow ((Below.refl _ _).drew), K.below ((Below.refl _ _).drew) K.lt, bel' pw ((Below.refl _ _).drew)⟩
              case measure => simp [intOf]; have := HJ.out; omega
            · have e2 := fun W : World => run_float_arith (P := Try.prog) W .mul 25 .f64 _ _ _ hm
              have HM2 : Hid (floatBits .mul .f64 x z = some y) := hm
              clear hm
              go_wp2_with fail
              go_roundw
              case rel => exact ⟨j + 1, y, by go_num, HJ.out, rfl, st 0 _ (HX.out.mul_some hz.out HM2.out), F, K, pw⟩
              case measure => simp [intOf]; have := HJ.out; omega
        · obtain rfl : j = L := by omega
          have jl' : ¬ (j : Int) < (j : Int) := by omega
          obtain ⟨xk, ck, _, rk⟩ := F.cell (show k < N by omega)
          obtain ⟨xo, co, fo, _⟩ := F.cell (show k + 1 < N by omega)
          have rk' : Hid (Rep (lo r g a j k) xk) := rk (by omega)
          have HX : Hid (Rep (pO (fun d => g d t) j) x) := hx
          have st : ∀ y : Nat, Rep (mulO (lo r g a j k) (pO (fun d => g d t) j)) y → Rep (lo r g a j (k + 1)) y := fun y h => by
            show Rep (mulO (lo r g a j k) (pO (fun i => g i (a + k)) j)) y
            rw [HT.out]; exact h
          have y4 : IntKind.i64.wrap ((k : Int) + 1) = ((k + 1 : Nat) : Int) := by rw [show (k : Int) + 1 = ((k + 1 : Nat) : Int) by omega]; exact wrapI _ (by omega) (by omega)
          have i1 : (k : Int) < (N : Int) := by omega
          have i2 : ((k + 1 : Nat) : Int) < (N : Int) := by omega
          have i3 : (0 : Int) ≤ ((k + 1 : Nat) : Int) := by omega
          have hB := HB.out
          have HN2 : Hid (k + 2 ≤ N ∧ w.heap.size < B) := ⟨n1, hB⟩
          clear n1 n2 n3 n4 hj CL HM hx rk jl
          rcases hm : floatBits .mul .f64 xk x with _ | y
          · have e2 := fun W => run_nan .mul (Or.inl rfl) 25 _ _ hm W
            have HM2 : Hid (floatBits .mul .f64 xk x = none) := hm
            clear hm
            go_wp2_with fail
            go_roundw
            case rel => exact ⟨k + 1, by go_num, by have := HN2.out; omega, (F.grow ((Below.refl _ _).drew)).put _ (st _ (rk'.out.mul_none HX.out HM2.out (nw_nan _ _ _))), bskip (K.below ((Below.refl _ _).drew) K.lt) (by have := HN2.out; omega) _ _, (bel' pw ((Below.refl _ _).drew)).setCell (p := ⟨B, k + 1, none⟩) (show w.heap.size ≤ B by have := HN2.out; omega) _⟩
            case measure => simp [intOf]; have := HN2.out; omega
          · have e2 := fun W : World => run_float_arith (P := Try.prog) W .mul 25 .f64 _ _ _ hm
            have HM2 : Hid (floatBits .mul .f64 xk x = some y) := hm
            clear hm
            go_wp2_with fail
            go_roundw
            case rel => exact ⟨k + 1, by go_num, by have := HN2.out; omega, F.put _ (st _ (rk'.out.mul_some HX.out HM2.out)), bskip K (by have := HN2.out; omega) _ _, pw.setCell (p := ⟨B, k + 1, none⟩) (show w.heap.size ≤ B by have := HN2.out; omega) _⟩
            case measure => simp [intOf]; have := HN2.out; omega
    · have kn' : ¬ (k : Int) < (N : Int) - 1 := by omega
      obtain rfl : N = k + 1 := by omega
      clear m1 m2 m3 m4 m5 m6 m7 m8 m9 CL HM HB
      go_wp2_with fail
      go_ret2
      exact ⟨⟨_, rfl, F.fr (by unfold maxLen; omega)⟩, pw⟩
end Go.Proofs.Ytemfndmffpalfaa.Df
