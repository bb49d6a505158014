import Derived.Test.YtachlkcoghkjnaaTb6
namespace Go.Proofs.Ytachlkcoghkjnaa.Ta
open Go.RowKit Go.Proofs.Ytachlkcoghkjnaa.L Dc
open Go.Proofs.Ytachlkcoghkjnaa.Mo (Ri wrapI)

set_option maxHeartbeats 1600000 in
set_option maxRecDepth 100000 in
theorem SameInts_same (v u : Value) (xs : List Int) (w : World) (h : Rx w v xs) (h' : Rx w u xs) :
    Calls Try.prog 20 #[v, u] w fun e w' => e = .returned (.bool true) ∧ ∃ m, w' = w.drewN m := by
  obtain ⟨⟨hb, a, cap, rfl, hl, hm, g⟩, _, hL⟩ := h
  obtain ⟨⟨_, a', cap', rfl, hl', hm', g'⟩, _, _⟩ := h'
  go_enter Try.func20, Try.ntmps20
  go_wp2_with fail
  go_loopw [5] (fun i wr => ∃ k : Nat, k ≤ xs.length ∧ i = .int .i64 k ∧ ∃ m, wr = w.drewN m) (fun i _ => xs.length - (intOf i).toNat)
  case atStart => exact ⟨0, Nat.zero_le _, rfl, 0, rfl⟩
  case round =>
    obtain ⟨k, hk, rfl, m, rfl⟩ := hrel
    by_cases hlt : k < xs.length
    · obtain ⟨b, o, rfl, hc⟩ := g (by omega)
      obtain ⟨b', o', rfl, hc'⟩ := g' (by omega)
      have d1 := hc.at hlt
      have d2 := hc'.at hlt
      have l1 := hc.lt (by omega)
      have l2 := hc'.lt (by omega)
      have x0 : (0 : Int) ≤ (k : Int) := by omega
      have x1 : ((k : Int)).toNat = k := by omega
      clear g g'
      go_wp2_with fail
      go_quiet (fail)
      go_wp2
      go_roundw
      case rel => exact ⟨k + 1, by omega, by go_num, _, rfl⟩
      case measure => simp [intOf]; omega
    · obtain rfl : k = xs.length := by omega
      clear g g'
      go_wp2
      go_ret
      exact ⟨rfl, _, rfl⟩

set_option maxRecDepth 100000 in
set_option maxHeartbeats 1600000 in
theorem SameTable_same (s : ByteArray) (f : Int) (vr vs ur us : Value) (rs : List Int) (sel : List (List Int)) (w : World) (hr : Rx w vr rs) (hs : Rr w vs sel) (hr' : Rx w ur rs) (hs' : Rr w us sel) :
    Calls Try.prog 11 #[.agg #[.string s, .int .i64 f, vr, vs], .agg #[.string s, .int .i64 f, ur, us]] w fun e w' => e = .returned (.bool true) ∧ Below w.heap.size w w' := by
  obtain ⟨hLs, az, cs, rfl, g⟩ := hs
  obtain ⟨_, az', cs', rfl, g'⟩ := hs'
  have S := fun W H H' => SameInts_same vr ur rs W H H'
  obtain ⟨W0, eW0⟩ : ∃ W0, W0 = (w.alloc (.cells #[.string s, .int .i64 f, vr, .slice az sel.length cs] 25)).alloc (.cells #[.string s, .int .i64 f, ur, .slice az' sel.length cs'] 25) := ⟨_, rfl⟩
  have B0 : Below w.heap.size w W0 := by
    rw [eW0]
    have q := (Below.refl w.heap.size w).alloc (Nat.le_refl _) (.cells #[.string s, .int .i64 f, vr, .slice az sel.length cs] 25)
    exact q.alloc q.size _
  have K0 : Blk W0 w.heap.size #[.string s, .int .i64 f, vr, .slice az sel.length cs] 25 := by rw [eW0]; exact (Blk.new w _ _).alloc _
  have K1 : Blk W0 (w.heap.size + 1) #[.string s, .int .i64 f, ur, .slice az' sel.length cs'] 25 := by
    rw [eW0]
    have := Blk.new (w.alloc (.cells #[.string s, .int .i64 f, vr, .slice az sel.length cs] 25)) #[.string s, .int .i64 f, ur, .slice az' sel.length cs'] 25
    simpa using this
  go_enter Try.func11, Try.ntmps11
  go_wp2_with (go_at_call 20; rw [← eW0]; refine (S _ (hr.grow B0) (hr'.grow B0)).mono ?_; rintro e w' ⟨rfl, m, rfl⟩; (have c3 := K0.at 3); (have d3 := K1.at 3); (simp at c3 d3); (have l3 := K0.lt); (have m3 := K1.lt))
  go_loopw [5] (fun i wr => ∃ k : Nat, k ≤ sel.length ∧ i = .int .i64 k ∧ Blk wr w.heap.size #[.string s, .int .i64 f, vr, .slice az sel.length cs] 25 ∧ Blk wr (w.heap.size + 1) #[.string s, .int .i64 f, ur, .slice az' sel.length cs'] 25 ∧ Below w.heap.size w wr) (fun i _ => sel.length - (intOf i).toNat)
  case atStart => subst eW0; exact ⟨0, Nat.zero_le _, rfl, K0, K1, below_drewN B0 _⟩
  case round =>
    clear K0 K1 B0 eW0 c3 d3 l3 m3 S hr hr'
    obtain ⟨k, hk, rfl, K0, K1, HB⟩ := hrel
    have c3 := K0.at 3
    have d3 := K1.at 3
    simp at c3 d3
    have l3 := K0.lt
    have m3 := K1.lt
    by_cases hlt : k < sel.length
    · obtain ⟨b, o, rfl, hc⟩ := g (by omega)
      obtain ⟨vd, c0, r1⟩ := hc k hlt
      have b1 : b < w.heap.size := lt_of_cell c0
      have c1 : wr.cell? ⟨b, o + k, none⟩ = some vd := (HB.cell (p := ⟨b, o + k, none⟩) b1).trans c0
      obtain ⟨b', o', rfl, hc'⟩ := g' (by omega)
      obtain ⟨ud, c0', r1'⟩ := hc' k hlt
      have b1' : b' < w.heap.size := lt_of_cell c0'
      have c1' : wr.cell? ⟨b', o' + k, none⟩ = some ud := (HB.cell (p := ⟨b', o' + k, none⟩) b1').trans c0'
      have x0 : (0 : Int) ≤ (k : Int) := by omega
      have x1 : ((k : Int)).toNat = k := by omega
      generalize sel.getD k [] = ys at r1 r1'
      have A := fun j => SameInts_same vd ud ys (wr.drewN j) ((r1.grow HB).grow (below_drewN (Below.refl _ _) j)) ((r1'.grow HB).grow (below_drewN (Below.refl _ _) j))
      obtain ⟨_, ⟨ad, cd, rfl, _⟩, hLd⟩ := r1
      obtain ⟨_, ⟨ad', cd', rfl, _⟩, _⟩ := r1'
      clear g hc c0 g' hc' c0'
      go_wp2_with fail
      go_quiet ((go_at_call 20; with_reducible exact Calls.quiet_of (A _)))
      go_wp2
      go_roundw
      case rel => exact ⟨k + 1, by omega, by go_num, K0, K1, below_drewN HB _⟩
      case measure => simp [intOf]; omega
    · clear g g'
      go_wp2
      go_ret
      exact ⟨rfl, HB⟩

set_option maxHeartbeats 1600000 in
theorem Last_any (s : ByteArray) (f : Int) (vr vs : Value) (rs : List Int) (sel : List (List Int)) (w : World) (hs : s.size ≤ 140737488351232) (hr : Rx w vr rs) (hsel : Rr w vs sel) :
    Calls Try.prog 7 #[.agg #[.string s, .int .i64 f, vr, vs]] w fun e w' => e = .returned (.tuple #[.int .i64 (if chk s f rs sel = 0 then f + rs.length - 1 else 0), .int .i64 (chk s f rs sel)]) ∧ Below w.heap.size w w' := by
  have C := fun W H1 H2 => Check_any s f vr vs rs sel W hs H1 H2
  have al : ∀ (c : Array Value) (t : TypeId), Below w.heap.size w (w.alloc (.cells c t)) := fun c t => (Below.refl _ _).alloc (Nat.le_refl _) _
  by_cases h : chk s f rs sel = 0
  · obtain ⟨_, h2, _⟩ := of_chk_0 h
    have hr' := hr
    obtain ⟨_, ⟨ar, cr, rfl, _⟩, hL⟩ := hr'
    have La := fun W => last_any s f ar rs.length cr vs W h2.1 h2.2.1 hL
    rw [h] at C
    rw [h]
    simp only [if_true]
    clear h
    have K0 : Blk (w.alloc (.cells #[.string s, .int .i64 f, .slice ar rs.length cr, vs] 25)) w.heap.size #[.string s, .int .i64 f, .slice ar rs.length cr, vs] 25 := Blk.new w _ _
    go_enter Try.func7, Try.ntmps7
    go_wp2_with (first
      | (go_at_call 8; refine (C _ (hr.grow (al _ _)) (hsel.grow (al _ _))).mono ?_; rintro e w1 ⟨rfl, B1⟩; (have K1 := K0.below B1 K0.lt); (have k0 := K1.at 0); (have k1 := K1.at 1); (have k2 := K1.at 2); (have k3 := K1.at 3); (simp at k0 k1 k2 k3))
      | (go_at_call 15; refine (La _).mono ?_; rintro e w2 ⟨rfl, B2⟩))
    go_ret2
    exact ⟨rfl, bel' (bel' (al _ _) B1) B2⟩
  · rw [if_neg h]
    have h' : (chk s f rs sel != 0) = true := by rw [bne_iff_ne]; exact h
    generalize chk s f rs sel = q at *
    clear h
    go_enter Try.func7, Try.ntmps7
    go_wp2_with (go_at_call 8; refine (C _ (hr.grow (al _ _)) (hsel.grow (al _ _))).mono ?_; rintro e w1 ⟨rfl, B1⟩)
    go_ret2
    exact ⟨rfl, bel' (al _ _) B1⟩
end Go.Proofs.Ytachlkcoghkjnaa.Ta
