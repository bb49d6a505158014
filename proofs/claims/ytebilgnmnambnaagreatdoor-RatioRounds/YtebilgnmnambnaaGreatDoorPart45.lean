import Derived.Test.YtebilgnmnambnaaGreatDoorPart44
import Derived.Test.YtebilgnmnambnaaGreatDoorPart29
import Derived.Test.YtebilgnmnambnaaGreatDoorPart33
import Derived.Test.YtebilgnmnambnaaGreatDoorPart14

namespace Go.Proofs.YtebilgnmnambnaaGreatDoor.Mo
open Go.RowKit Fu Tn Go.Lib Dc
set_option maxHeartbeats 3200000 in
set_option maxRecDepth 100000 in
theorem Decimal_err (s1 t1 : ByteArray) (p k c : Int) (w : World) (hc : (c != 0) = true) (CR' : ∀ x, Below w.heap.size w x → Calls Tryz.prog 47 #[.agg #[.string s1, .string t1]] x fun e w' => e = .returned (.tuple #[.agg #[.bool false, .slice none 0 0, .slice none 0 0], .int .i64 c]) ∧ Below x.heap.size x w') :
    Calls Tryz.prog 15 #[.agg #[.string s1, .string t1], .int .i64 p, .int .i64 k] w fun e w' => e = .returned (.tuple #[.string ⟨#[]⟩, .int .i64 c]) ∧ Below w.heap.size w w' := by
  have pr : Below w.heap.size w (w.alloc (.cells #[.string s1, .string t1] 23)) := (Below.refl _ _).alloc (Nat.le_refl _) _
  go_enter Tryz.func15, Tryz.ntmps15
  go_wp2_with (first
    | (go_at_call 47; (refine (CR' _ pr).mono ?_); (rintro e w1 ⟨rfl, b1⟩); (have al := (Below.refl w1.heap.size w1).alloc (Nat.le_refl _) (.cells #[.bool false, .slice none 0 0, .slice none 0 0] 67)); (have p1 := bel' pr (bel' b1 al)))
    | fail)
  go_ret2
  exact ⟨rfl, p1⟩
set_option maxHeartbeats 3200000 in
set_option maxRecDepth 100000 in
theorem Decimal_neg (s1 t1 : ByteArray) (p k : Int) (r : Rat) (w : World) (h : p < 0) (CR' : ∀ x, Below w.heap.size w x → Calls Tryz.prog 47 #[.agg #[.string s1, .string t1]] x (Fr r x)) :
    Calls Tryz.prog 15 #[.agg #[.string s1, .string t1], .int .i64 p, .int .i64 k] w fun e w' => e = .returned (.tuple #[.string ⟨#[]⟩, .int .i64 1]) ∧ Below w.heap.size w w' := by
  have pr : Below w.heap.size w (w.alloc (.cells #[.string s1, .string t1] 23)) := (Below.refl _ _).alloc (Nat.le_refl _) _
  go_enter Tryz.func15, Tryz.ntmps15
  go_wp2_with (first
    | fail
    | (go_at_call 47; (refine (CR' _ pr).mono ?_); (rintro e w1 ⟨g, a, l, c, a', l', c', rfl, t1, b1⟩); (have al := (Below.refl w1.heap.size w1).alloc (Nat.le_refl _) (.cells #[.bool g, .slice a l c, .slice a' l' c'] 67)); (have p1 := bel' pr (bel' b1 al)))
    | fail)
  go_ret2
  exact ⟨rfl, p1⟩
set_option maxHeartbeats 3200000 in
set_option maxRecDepth 100000 in
theorem Decimal_far (s1 t1 : ByteArray) (p k : Int) (r : Rat) (w : World) (h : 1024 < p) (CR' : ∀ x, Below w.heap.size w x → Calls Tryz.prog 47 #[.agg #[.string s1, .string t1]] x (Fr r x)) :
    Calls Tryz.prog 15 #[.agg #[.string s1, .string t1], .int .i64 p, .int .i64 k] w fun e w' => e = .returned (.tuple #[.string ⟨#[]⟩, .int .i64 1]) ∧ Below w.heap.size w w' := by
  have pr : Below w.heap.size w (w.alloc (.cells #[.string s1, .string t1] 23)) := (Below.refl _ _).alloc (Nat.le_refl _) _
  have q0 : ¬ p < 0 := by omega
  go_enter Tryz.func15, Tryz.ntmps15
  go_wp2_with (first
    | fail
    | (go_at_call 47; (refine (CR' _ pr).mono ?_); (rintro e w1 ⟨g, a, l, c, a', l', c', rfl, t1, b1⟩); (have al := (Below.refl w1.heap.size w1).alloc (Nat.le_refl _) (.cells #[.bool g, .slice a l c, .slice a' l' c'] 67)); (have p1 := bel' pr (bel' b1 al)))
    | fail)
  go_ret2
  exact ⟨rfl, p1⟩
set_option maxHeartbeats 3200000 in
set_option maxRecDepth 100000 in
theorem Decimal_nway (s1 t1 : ByteArray) (p k : Int) (r : Rat) (w : World) (h0 : 0 ≤ p) (h1 : p ≤ 1024) (IW : ∀ x, Calls Tryz.prog 59 #[.int .i64 k] x fun e w' => e = .returned (.bool false) ∧ w' = x) (CR' : ∀ x, Below w.heap.size w x → Calls Tryz.prog 47 #[.agg #[.string s1, .string t1]] x (Fr r x)) :
    Calls Tryz.prog 15 #[.agg #[.string s1, .string t1], .int .i64 p, .int .i64 k] w fun e w' => e = .returned (.tuple #[.string ⟨#[]⟩, .int .i64 1]) ∧ Below w.heap.size w w' := by
  have pr : Below w.heap.size w (w.alloc (.cells #[.string s1, .string t1] 23)) := (Below.refl _ _).alloc (Nat.le_refl _) _
  have q0 : ¬ p < 0 := by omega
  have q1 : ¬ p > 1024 := by omega
  go_enter Tryz.func15, Tryz.ntmps15
  go_wp2_with (first
    | (go_at_call 59; (have mk := p1); (refine (IW _).mono ?_); (rintro e x1 ⟨rfl, hx⟩); (subst x1))
    | (go_at_call 47; (refine (CR' _ pr).mono ?_); (rintro e w1 ⟨g, a, l, c, a', l', c', rfl, t1, b1⟩); (have al := (Below.refl w1.heap.size w1).alloc (Nat.le_refl _) (.cells #[.bool g, .slice a l c, .slice a' l' c'] 67)); (have p1 := bel' pr (bel' b1 al)))
    | fail)
  go_ret2
  exact ⟨rfl, p1⟩
set_option maxHeartbeats 6400000 in
set_option maxRecDepth 100000 in
theorem Decimal_whole (s1 t1 D H S : ByteArray) (g1 g2 : Bool) (O1 D1 T Q Z p k : Int) (w : World) (G : Gw w)
    (p0 : ¬ 0 < p) (pm : 0 ≤ p) (p1 : p ≤ 1024) (hd0 : IntKind.i64.wrap (p + 1) = p + 1) (hd1 : IntKind.i64.wrap (p + 1 - (D.size : Int)) = p + 1 - (D.size : Int)) (hl : ¬ p + 1 - (D.size : Int) > 0) (hl2 : ¬ (D.size : Int) > 4096) (hd2 : IntKind.i64.wrap ((D.size : Int) - p) = (D.size : Int) - p)
    (pt : Nat) (hpt : (D.size : Int) - p = (pt : Int)) (hle : pt ≤ D.size) (hH : D.extract 0 pt = H)
    (CR' : ∀ x, Below w.heap.size w x → Calls Tryz.prog 47 #[.agg #[.string s1, .string t1]] x fun e w' => ∃ (a : Option Addr × Option Addr) (l c : Nat × Nat), e = .returned (.tuple #[.agg #[.bool g1, .slice a.1 l.1 c.1, .slice a.2 l.2 c.2], .int .i64 0]) ∧ (Nn w' a.1 l.1 c.1 O1 ∧ Nn w' a.2 l.2 c.2 D1) ∧ Below x.heap.size x w')
    (CW : ∀ x, Calls Tryz.prog 59 #[.int .i64 k] x fun e w' => e = .returned (.bool true) ∧ w' = x)
    (CO : ∀ x, Calls Tryz.prog 65 #[.int .u64 10] x fun e w' => ∃ a l c, e = .returned (.agg #[.slice a l c]) ∧ Nn w' a l c 10 ∧ Below x.heap.size x w')
    (CP : ∀ x a l c, Nn x a l c 10 → Calls Tryz.prog 66 #[.agg #[.slice a l c], .int .i64 p] x fun e w' => ∃ a l c, e = .returned (.agg #[.slice a l c]) ∧ Nn w' a l c T ∧ Below x.heap.size x w')
    (CM : ∀ x a l c a' l' c', Nn x a l c O1 → Nn x a' l' c' T → Calls Tryz.prog 64 #[.agg #[.slice a l c], .agg #[.slice a' l' c']] x fun e w' => ∃ a l c, e = .returned (.agg #[.slice a l c]) ∧ Nn w' a l c Q ∧ Below x.heap.size x w')
    (CD : ∀ x a l c a' l' c', Nn x a l c Q → Nn x a' l' c' D1 → Calls Tryz.prog 60 #[.agg #[.bool g1, .slice a l c, .slice a' l' c'], .int .i64 k] x fun e w' => ∃ (a : Option Addr × Option Addr) (l c : Nat × Nat), e = .returned (.agg #[.bool g2, .slice a.1 l.1 c.1, .slice a.2 l.2 c.2]) ∧ Nn w' a.1 l.1 c.1 Z ∧ Below x.heap.size x w')
    (CX : ∀ x a l c, Nn x a l c Z → Gw x → Calls Tryz.prog 67 #[.agg #[.slice a l c]] x fun e w' => e = .returned (.string D) ∧ Below x.heap.size x w')
    (CS : ∀ x, Calls Tryz.prog 69 #[.bool g2, .string H] x fun e w' => e = .returned (.string S) ∧ w' = x) :
    Calls Tryz.prog 15 #[.agg #[.string s1, .string t1], .int .i64 p, .int .i64 k] w fun e w' => e = .returned (.tuple #[.string S, .int .i64 0]) ∧ Below w.heap.size w w' := by
  have KA := Blk.new w #[.string s1, .string t1] 23
  have pr : Below w.heap.size w (w.alloc (.cells #[.string s1, .string t1] 23)) := (Below.refl _ _).alloc (Nat.le_refl _) _
  have q0 : ¬ p < 0 := by omega
  have q1 : ¬ p > 1024 := by omega
  go_enter Tryz.func15, Tryz.ntmps15
  go_wp2_with fail
  have ka0 := KA.at 0
  have ka1 := KA.at 1
  simp at ka0 ka1
  generalize (w.alloc (.cells #[.string s1, .string t1] 23)) = W at *
  go_wp2_with (first
    | (go_at_call 47; go_must (refine (CR' _ pr).mono ?_; rintro e w1 ⟨p_, q_, r_, rfl, H', b1⟩; (have al := ((Below.refl w1.heap.size w1).alloc (Nat.le_refl _) (.cells #[.bool g1, .slice p_.1 q_.1 r_.1, .slice p_.2 q_.2 r_.2] 67))); (have b2 := bel' b1 al); (have pB := bel' pr b2); (have n1 := (⟨H'.1.grow al, H'.2.grow al⟩ : _ ∧ _)); (have KF := Rb.new w1 (.bool g1) (.slice p_.1 q_.1 r_.1) (.slice p_.2 q_.2 r_.2) 67); (have kf0 := KF.c0); (have kf1 := KF.c1); (have kf2 := KF.c2)))
    | (go_at_call 59; refine (CW _).mono ?_; rintro e x1 ⟨rfl, rfl⟩)
    | fail)
  generalize w1.alloc (.cells #[.bool g1, .slice p_.1 q_.1 r_.1, .slice p_.2 q_.2 r_.2] 67) = WA at *
  have hXl : w.heap.size < w1.heap.size := by have := KA.lt; have := b1.size; omega
  generalize w1.heap.size = X at *
  clear CR' CW KA ka0 ka1 H' al b2 kf0 kf1 kf2
  have kf0 := KF.c0
  have kf1 := KF.c1
  have kf2 := KF.c2
  go_cut [] (fun wc => ∃ a l c, Nn wc a l c Q ∧ Nn wc p_.2 q_.2 r_.2 D1 ∧ Rb wc X (.bool g1) (.slice a l c) (.slice p_.2 q_.2 r_.2) ∧ Below w.heap.size w wc)
  case first =>
    go_region_with (first
      | (go_at_call 65; refine (CO _).mono ?_; rintro e y1 ⟨oa, ol, oc, rfl, o1, d1⟩; have d1 := undrew d1; have e1 := (KF.grow d1).c1)
      | (go_at_call 66; refine (CP _ _ _ _ o1).mono ?_; rintro e y2 ⟨ta, tl, tc, rfl, o2, d2⟩; have d2 := bel' d1 d2; have e2 := (KF.grow d2).c1)
      | (go_at_call 64; refine (CM _ _ _ _ _ _ _ (n1.1.grow d2) o2).mono ?_; rintro e y3 ⟨ma, ml, mc, rfl, o3, d3⟩; have d3 := bel' d2 d3; have K3 := KF.grow d3; have e3 := K3.c1; have e4 := K3.f1)
      | fail)
    all_goals
      go_wp2_with fail
      go_meet
      case rel =>
        have B3 := K3.bk.choose_spec
        have f1 := o3.off B3 fr3
        have n2 := n1.2.grow d3
        have f2 := n2.off B3 fr3
        exact ⟨ma, ml, mc, o3.set f1 1 _, n2.set f2 1 _, Rb.ofB (by simpa using bput B3 1 (.slice ma ml mc)), (bel' pB d3).setCell (p := ⟨X, 1, none⟩) (show w.heap.size ≤ X by omega) _⟩
  case rest =>
    rename World => wB
    obtain ⟨ma, ml, mc, m1, m2, KB, pC⟩ := hcut
    clear KF kf0 kf1 kf2 n1 pB CO CP CM
    have kb0 := KB.c0
    have kb1 := KB.c1
    have kb2 := KB.c2
    go_wp2_with (first
      | (go_at_call 60; refine (CD _ _ _ _ _ _ _ m1 m2).mono ?_; rintro e w2 ⟨ra, rl, rc, rfl, z1, d1⟩; have al := (Below.refl w2.heap.size w2).alloc (Nat.le_refl _) (.cells #[.bool g2, .slice ra.1 rl.1 rc.1, .slice ra.2 rl.2 rc.2] 67); have d2 := bel' d1 al; have KY := Rb.new w2 (.bool g2) (.slice ra.1 rl.1 rc.1) (.slice ra.2 rl.2 rc.2) 67; have z2 := z1.grow al; have ky1 := KY.c1)
      | (go_at_call 67; refine (CX _ _ _ _ z2 (G.grow (bel' pC d2))).mono ?_; rintro e w3 ⟨rfl, d3⟩; have d4 := bel' d2 d3; have KZ := KY.grow d3; have kz := KZ.c0)
      | fail)
    go_region_held3 (fun x => x.cell? ⟨w2.heap.size, 0, none⟩ = some (.bool g2)) (go_keep) (first
      | (go_at_call 69; refine (CS _).mono ?_; rintro e w5 ⟨rfl, rfl⟩; have kz5 := kz)
      | fail)
    go_wp2
    exact bodyPost_ret (v := .tuple #[.string S, .int .i64 0]) (by simp [results, Tryz.results15, go_sem]) rfl ⟨rfl, (bel' pC d4).drew⟩
set_option maxHeartbeats 6400000 in
set_option maxRecDepth 100000 in
theorem Decimal_long (s1 t1 D : ByteArray) (g1 g2 : Bool) (O1 D1 T Q Z p k : Int) (w : World) (G : Gw w)
    (pm : 0 ≤ p) (p1 : p ≤ 1024) (hd0 : IntKind.i64.wrap (p + 1) = p + 1) (hd1 : IntKind.i64.wrap (p + 1 - (D.size : Int)) = p + 1 - (D.size : Int)) (hl : ¬ p + 1 - (D.size : Int) > 0) (hl2 : (D.size : Int) > 4096)
    (CR' : ∀ x, Below w.heap.size w x → Calls Tryz.prog 47 #[.agg #[.string s1, .string t1]] x fun e w' => ∃ (a : Option Addr × Option Addr) (l c : Nat × Nat), e = .returned (.tuple #[.agg #[.bool g1, .slice a.1 l.1 c.1, .slice a.2 l.2 c.2], .int .i64 0]) ∧ (Nn w' a.1 l.1 c.1 O1 ∧ Nn w' a.2 l.2 c.2 D1) ∧ Below x.heap.size x w')
    (CW : ∀ x, Calls Tryz.prog 59 #[.int .i64 k] x fun e w' => e = .returned (.bool true) ∧ w' = x)
    (CO : ∀ x, Calls Tryz.prog 65 #[.int .u64 10] x fun e w' => ∃ a l c, e = .returned (.agg #[.slice a l c]) ∧ Nn w' a l c 10 ∧ Below x.heap.size x w')
    (CP : ∀ x a l c, Nn x a l c 10 → Calls Tryz.prog 66 #[.agg #[.slice a l c], .int .i64 p] x fun e w' => ∃ a l c, e = .returned (.agg #[.slice a l c]) ∧ Nn w' a l c T ∧ Below x.heap.size x w')
    (CM : ∀ x a l c a' l' c', Nn x a l c O1 → Nn x a' l' c' T → Calls Tryz.prog 64 #[.agg #[.slice a l c], .agg #[.slice a' l' c']] x fun e w' => ∃ a l c, e = .returned (.agg #[.slice a l c]) ∧ Nn w' a l c Q ∧ Below x.heap.size x w')
    (CD : ∀ x a l c a' l' c', Nn x a l c Q → Nn x a' l' c' D1 → Calls Tryz.prog 60 #[.agg #[.bool g1, .slice a l c, .slice a' l' c'], .int .i64 k] x fun e w' => ∃ (a : Option Addr × Option Addr) (l c : Nat × Nat), e = .returned (.agg #[.bool g2, .slice a.1 l.1 c.1, .slice a.2 l.2 c.2]) ∧ Nn w' a.1 l.1 c.1 Z ∧ Below x.heap.size x w')
    (CX : ∀ x a l c, Nn x a l c Z → Gw x → Calls Tryz.prog 67 #[.agg #[.slice a l c]] x fun e w' => e = .returned (.string D) ∧ Below x.heap.size x w')
    :
    Calls Tryz.prog 15 #[.agg #[.string s1, .string t1], .int .i64 p, .int .i64 k] w fun e w' => e = .returned (.tuple #[.string ⟨#[]⟩, .int .i64 3]) ∧ Below w.heap.size w w' := by
  have KA := Blk.new w #[.string s1, .string t1] 23
  have pr : Below w.heap.size w (w.alloc (.cells #[.string s1, .string t1] 23)) := (Below.refl _ _).alloc (Nat.le_refl _) _
  have q0 : ¬ p < 0 := by omega
  have q1 : ¬ p > 1024 := by omega
  go_enter Tryz.func15, Tryz.ntmps15
  go_wp2_with fail
  have ka0 := KA.at 0
  have ka1 := KA.at 1
  simp at ka0 ka1
  generalize (w.alloc (.cells #[.string s1, .string t1] 23)) = W at *
  go_wp2_with (first
    | (go_at_call 47; go_must (refine (CR' _ pr).mono ?_; rintro e w1 ⟨p_, q_, r_, rfl, H', b1⟩; (have al := ((Below.refl w1.heap.size w1).alloc (Nat.le_refl _) (.cells #[.bool g1, .slice p_.1 q_.1 r_.1, .slice p_.2 q_.2 r_.2] 67))); (have b2 := bel' b1 al); (have pB := bel' pr b2); (have n1 := (⟨H'.1.grow al, H'.2.grow al⟩ : _ ∧ _)); (have KF := Rb.new w1 (.bool g1) (.slice p_.1 q_.1 r_.1) (.slice p_.2 q_.2 r_.2) 67); (have kf0 := KF.c0); (have kf1 := KF.c1); (have kf2 := KF.c2)))
    | (go_at_call 59; refine (CW _).mono ?_; rintro e x1 ⟨rfl, rfl⟩)
    | fail)
  generalize w1.alloc (.cells #[.bool g1, .slice p_.1 q_.1 r_.1, .slice p_.2 q_.2 r_.2] 67) = WA at *
  have hXl : w.heap.size < w1.heap.size := by have := KA.lt; have := b1.size; omega
  generalize w1.heap.size = X at *
  clear CR' CW KA ka0 ka1 H' al b2 kf0 kf1 kf2
  have kf0 := KF.c0
  have kf1 := KF.c1
  have kf2 := KF.c2
  go_cut [] (fun wc => ∃ a l c, Nn wc a l c Q ∧ Nn wc p_.2 q_.2 r_.2 D1 ∧ Rb wc X (.bool g1) (.slice a l c) (.slice p_.2 q_.2 r_.2) ∧ Below w.heap.size w wc)
  case first =>
    go_region_with (first
      | (go_at_call 65; refine (CO _).mono ?_; rintro e y1 ⟨oa, ol, oc, rfl, o1, d1⟩; have d1 := undrew d1; have e1 := (KF.grow d1).c1)
      | (go_at_call 66; refine (CP _ _ _ _ o1).mono ?_; rintro e y2 ⟨ta, tl, tc, rfl, o2, d2⟩; have d2 := bel' d1 d2; have e2 := (KF.grow d2).c1)
      | (go_at_call 64; refine (CM _ _ _ _ _ _ _ (n1.1.grow d2) o2).mono ?_; rintro e y3 ⟨ma, ml, mc, rfl, o3, d3⟩; have d3 := bel' d2 d3; have K3 := KF.grow d3; have e3 := K3.c1; have e4 := K3.f1)
      | fail)
    all_goals
      go_wp2_with fail
      go_meet
      case rel =>
        have B3 := K3.bk.choose_spec
        have f1 := o3.off B3 fr3
        have n2 := n1.2.grow d3
        have f2 := n2.off B3 fr3
        exact ⟨ma, ml, mc, o3.set f1 1 _, n2.set f2 1 _, Rb.ofB (by simpa using bput B3 1 (.slice ma ml mc)), (bel' pB d3).setCell (p := ⟨X, 1, none⟩) (show w.heap.size ≤ X by omega) _⟩
  case rest =>
    rename World => wB
    obtain ⟨ma, ml, mc, m1, m2, KB, pC⟩ := hcut
    clear KF kf0 kf1 kf2 n1 pB CO CP CM
    have kb0 := KB.c0
    have kb1 := KB.c1
    have kb2 := KB.c2
    go_wp2_with (first
      | (go_at_call 60; refine (CD _ _ _ _ _ _ _ m1 m2).mono ?_; rintro e w2 ⟨ra, rl, rc, rfl, z1, d1⟩; have al := (Below.refl w2.heap.size w2).alloc (Nat.le_refl _) (.cells #[.bool g2, .slice ra.1 rl.1 rc.1, .slice ra.2 rl.2 rc.2] 67); have d2 := bel' d1 al; have KY := Rb.new w2 (.bool g2) (.slice ra.1 rl.1 rc.1) (.slice ra.2 rl.2 rc.2) 67; have z2 := z1.grow al; have ky1 := KY.c1)
      | (go_at_call 67; refine (CX _ _ _ _ z2 (G.grow (bel' pC d2))).mono ?_; rintro e w3 ⟨rfl, d3⟩; have d4 := bel' d2 d3; have KZ := KY.grow d3; have kz := KZ.c0)
      | fail)
    exact bodyPost_ret (v := .tuple #[.string ⟨#[]⟩, .int .i64 3]) (by simp [results, Tryz.results15, go_sem]) rfl ⟨rfl, (bel' pC d4)⟩
set_option maxHeartbeats 6400000 in
set_option maxRecDepth 100000 in
theorem Decimal_lack (s1 t1 D' U D H E S F R : ByteArray) (g1 g2 : Bool) (O1 D1 T Q Z p k : Int) (w : World) (G : Gw w)
    (p0 : 0 < p) (p1 : p ≤ 1024) (hd0 : IntKind.i64.wrap (p + 1) = p + 1) (hd1 : IntKind.i64.wrap (p + 1 - (D'.size : Int)) = p + 1 - (D'.size : Int)) (hl : p + 1 - (D'.size : Int) > 0) (hU : U ++ D' = D) (zU : U.size ≤ 4097) (_zD : D'.size ≤ 4097) (hl2 : ¬ (D.size : Int) > 4096) (hd2 : IntKind.i64.wrap ((D.size : Int) - p) = (D.size : Int) - p)
    (pt : Nat) (hpt : (D.size : Int) - p = (pt : Int)) (hle : pt ≤ D.size) (hH : D.extract 0 pt = H) (hE : D.extract pt D.size = E)
    (hF : (⟨#[46]⟩ : ByteArray) ++ E = F) (hR : S ++ F = R) (zE : E.size ≤ 4096) (zF : F.size ≤ 4097) (zS : S.size ≤ 4097)
    (CR' : ∀ x, Below w.heap.size w x → Calls Tryz.prog 47 #[.agg #[.string s1, .string t1]] x fun e w' => ∃ (a : Option Addr × Option Addr) (l c : Nat × Nat), e = .returned (.tuple #[.agg #[.bool g1, .slice a.1 l.1 c.1, .slice a.2 l.2 c.2], .int .i64 0]) ∧ (Nn w' a.1 l.1 c.1 O1 ∧ Nn w' a.2 l.2 c.2 D1) ∧ Below x.heap.size x w')
    (CW : ∀ x, Calls Tryz.prog 59 #[.int .i64 k] x fun e w' => e = .returned (.bool true) ∧ w' = x)
    (CO : ∀ x, Calls Tryz.prog 65 #[.int .u64 10] x fun e w' => ∃ a l c, e = .returned (.agg #[.slice a l c]) ∧ Nn w' a l c 10 ∧ Below x.heap.size x w')
    (CP : ∀ x a l c, Nn x a l c 10 → Calls Tryz.prog 66 #[.agg #[.slice a l c], .int .i64 p] x fun e w' => ∃ a l c, e = .returned (.agg #[.slice a l c]) ∧ Nn w' a l c T ∧ Below x.heap.size x w')
    (CM : ∀ x a l c a' l' c', Nn x a l c O1 → Nn x a' l' c' T → Calls Tryz.prog 64 #[.agg #[.slice a l c], .agg #[.slice a' l' c']] x fun e w' => ∃ a l c, e = .returned (.agg #[.slice a l c]) ∧ Nn w' a l c Q ∧ Below x.heap.size x w')
    (CD : ∀ x a l c a' l' c', Nn x a l c Q → Nn x a' l' c' D1 → Calls Tryz.prog 60 #[.agg #[.bool g1, .slice a l c, .slice a' l' c'], .int .i64 k] x fun e w' => ∃ (a : Option Addr × Option Addr) (l c : Nat × Nat), e = .returned (.agg #[.bool g2, .slice a.1 l.1 c.1, .slice a.2 l.2 c.2]) ∧ Nn w' a.1 l.1 c.1 Z ∧ Below x.heap.size x w')
    (CX : ∀ x a l c, Nn x a l c Z → Gw x → Calls Tryz.prog 67 #[.agg #[.slice a l c]] x fun e w' => e = .returned (.string D') ∧ Below x.heap.size x w')
    (CU : ∀ x, Calls Tryz.prog 68 #[.string ⟨#[48]⟩, .int .i64 (p + 1 - (D'.size : Int))] x fun e w' => e = .returned (.string U) ∧ Below x.heap.size x w')
    (CS : ∀ x, Calls Tryz.prog 69 #[.bool g2, .string H] x fun e w' => e = .returned (.string S) ∧ w' = x) :
    Calls Tryz.prog 15 #[.agg #[.string s1, .string t1], .int .i64 p, .int .i64 k] w fun e w' => e = .returned (.tuple #[.string R, .int .i64 0]) ∧ Below w.heap.size w w' := by
  have KA := Blk.new w #[.string s1, .string t1] 23
  have pr : Below w.heap.size w (w.alloc (.cells #[.string s1, .string t1] 23)) := (Below.refl _ _).alloc (Nat.le_refl _) _
  have q0 : ¬ p < 0 := by omega
  have q1 : ¬ p > 1024 := by omega
  go_enter Tryz.func15, Tryz.ntmps15
  go_wp2_with fail
  have ka0 := KA.at 0
  have ka1 := KA.at 1
  simp at ka0 ka1
  generalize (w.alloc (.cells #[.string s1, .string t1] 23)) = W at *
  go_wp2_with (first
    | (go_at_call 47; go_must (refine (CR' _ pr).mono ?_; rintro e w1 ⟨p_, q_, r_, rfl, H', b1⟩; (have al := ((Below.refl w1.heap.size w1).alloc (Nat.le_refl _) (.cells #[.bool g1, .slice p_.1 q_.1 r_.1, .slice p_.2 q_.2 r_.2] 67))); (have b2 := bel' b1 al); (have pB := bel' pr b2); (have n1 := (⟨H'.1.grow al, H'.2.grow al⟩ : _ ∧ _)); (have KF := Rb.new w1 (.bool g1) (.slice p_.1 q_.1 r_.1) (.slice p_.2 q_.2 r_.2) 67); (have kf0 := KF.c0); (have kf1 := KF.c1); (have kf2 := KF.c2)))
    | (go_at_call 59; refine (CW _).mono ?_; rintro e x1 ⟨rfl, rfl⟩)
    | fail)
  generalize w1.alloc (.cells #[.bool g1, .slice p_.1 q_.1 r_.1, .slice p_.2 q_.2 r_.2] 67) = WA at *
  have hXl : w.heap.size < w1.heap.size := by have := KA.lt; have := b1.size; omega
  generalize w1.heap.size = X at *
  clear CR' CW KA ka0 ka1 H' al b2 kf0 kf1 kf2
  have kf0 := KF.c0
  have kf1 := KF.c1
  have kf2 := KF.c2
  go_cut [] (fun wc => ∃ a l c, Nn wc a l c Q ∧ Nn wc p_.2 q_.2 r_.2 D1 ∧ Rb wc X (.bool g1) (.slice a l c) (.slice p_.2 q_.2 r_.2) ∧ Below w.heap.size w wc)
  case first =>
    go_region_with (first
      | (go_at_call 65; refine (CO _).mono ?_; rintro e y1 ⟨oa, ol, oc, rfl, o1, d1⟩; have d1 := undrew d1; have e1 := (KF.grow d1).c1)
      | (go_at_call 66; refine (CP _ _ _ _ o1).mono ?_; rintro e y2 ⟨ta, tl, tc, rfl, o2, d2⟩; have d2 := bel' d1 d2; have e2 := (KF.grow d2).c1)
      | (go_at_call 64; refine (CM _ _ _ _ _ _ _ (n1.1.grow d2) o2).mono ?_; rintro e y3 ⟨ma, ml, mc, rfl, o3, d3⟩; have d3 := bel' d2 d3; have K3 := KF.grow d3; have e3 := K3.c1; have e4 := K3.f1)
      | fail)
    all_goals
      go_wp2_with fail
      go_meet
      case rel =>
        have B3 := K3.bk.choose_spec
        have f1 := o3.off B3 fr3
        have n2 := n1.2.grow d3
        have f2 := n2.off B3 fr3
        exact ⟨ma, ml, mc, o3.set f1 1 _, n2.set f2 1 _, Rb.ofB (by simpa using bput B3 1 (.slice ma ml mc)), (bel' pB d3).setCell (p := ⟨X, 1, none⟩) (show w.heap.size ≤ X by omega) _⟩
  case rest =>
    rename World => wB
    obtain ⟨ma, ml, mc, m1, m2, KB, pC⟩ := hcut
    clear KF kf0 kf1 kf2 n1 pB CO CP CM
    have kb0 := KB.c0
    have kb1 := KB.c1
    have kb2 := KB.c2
    go_wp2_with (first
      | (go_at_call 68; refine (CU _).mono ?_; rintro e w4 ⟨rfl, du⟩; have d5 := bel' d4 du; have KU := KZ.grow du; have kz := KU.c0)
      | (go_at_call 60; refine (CD _ _ _ _ _ _ _ m1 m2).mono ?_; rintro e w2 ⟨ra, rl, rc, rfl, z1, d1⟩; have al := (Below.refl w2.heap.size w2).alloc (Nat.le_refl _) (.cells #[.bool g2, .slice ra.1 rl.1 rc.1, .slice ra.2 rl.2 rc.2] 67); have d2 := bel' d1 al; have KY := Rb.new w2 (.bool g2) (.slice ra.1 rl.1 rc.1) (.slice ra.2 rl.2 rc.2) 67; have z2 := z1.grow al; have ky1 := KY.c1)
      | (go_at_call 67; refine (CX _ _ _ _ z2 (G.grow (bel' pC d2))).mono ?_; rintro e w3 ⟨rfl, d3⟩; have d4 := bel' d2 d3; have KZ := KY.grow d3; have kz := KZ.c0)
      | fail)
    go_region_held3 (fun x => x.cell? ⟨w2.heap.size, 0, none⟩ = some (.bool g2)) (go_keep) (first
      | (go_at_call 69; refine (CS _).mono ?_; rintro e w5 ⟨rfl, rfl⟩; have kz5 := kz)
      | fail)
    go_wp2
    exact bodyPost_ret (v := .tuple #[.string R, .int .i64 0]) (by simp [results, Tryz.results15, go_sem]) rfl ⟨rfl, (bel' pC d5).drew⟩
end Go.Proofs.YtebilgnmnambnaaGreatDoor.Mo

namespace Go.Proofs.YtebilgnmnambnaaGreatDoor.Mo
open Go.RowKit Fu Tn Go.Lib Dc
theorem ten_k : (10 : Nat) ^ 1024 < 2 ^ (64 * 54) := by decide +kernel
theorem ten_1024 {p : Nat} (h : p ≤ 1024) : ((10 ^ p : Nat) : Int) < pw 54 := by
  rw [pw_two]
  exact Int.ofNat_lt.2 (Nat.lt_of_le_of_lt (Nat.pow_le_pow_right (by decide) h) ten_k)
theorem two_six : (2 : Nat) ^ (64 * 311) < 10 ^ 5999 := by decide +kernel
theorem six_words {N : Nat} (h : (N : Int) < pw 311) : (decDigits N).length ≤ 6000 := by
  by_cases z : N = 0
  · subst z
    rw [decDigits]
    simp
  · have h1 := ten_le_of_digits N (by omega)
    rw [pw_two] at h
    exact len_of_lt' h1 (Int.ofNat_lt.1 h) two_six
theorem ten_ps {p : Nat} (h : p ≤ 1024) : PS (((10 ^ p : Nat) : Int) : Rat) 54 := by
  have n1 : (((10 ^ p : Nat) : Int) : Rat).num = ((10 ^ p : Nat) : Int) := rfl
  have d1 : (((10 ^ p : Nat) : Int) : Rat).den = 1 := rfl
  have := ten_1024 h
  have p54 : 1 < pw 54 := by decide
  exact ⟨by rw [n1, Int.natAbs_natCast]; exact this, by rw [d1]; exact p54⟩
def dM (r : Rat) (p : Nat) (k : Int) : Int := L.rndQ k (r * (((10 ^ p : Nat) : Int) : Rat))
theorem dM_ps {r : Rat} {p : Nat} {k : Int} (h : PS r 256) (hp : p ≤ 1024) (k1 : 1 ≤ k) (k6 : k ≤ 6) : PS ((dM r p k : Int) : Rat) 311 := (rnd_ps (h.mul (ten_ps hp)) k1 k6).mono (by omega)
theorem dM_lt {r : Rat} {p : Nat} {k : Int} (h : PS r 256) (hp : p ≤ 1024) (k1 : 1 ≤ k) (k6 : k ≤ 6) : ((dM r p k).natAbs : Int) < pw 311 := (dM_ps h hp k1 k6).1
set_option maxHeartbeats 1600000 in
theorem PDec (n d : ByteArray) (p : Nat) (k : Int) (r : Rat) (w : World) (e1 : (.agg #[.string n, .string d] : Value) = wrt r) (r1 : Rdy r) (h3 : PS r 256) (p1 : p ≤ 1024) (hk : (decide (1 ≤ k) && decide (k ≤ 6)) = true) (G : Gw w) :
    Calls Tryz.prog 15 #[.agg #[.string n, .string d], .int .i64 (p : Int), .int .i64 k] w fun e w' => e = .returned (.tuple #[.string (dT p (dM r p k)).1, .int .i64 (dT p (dM r p k)).2]) ∧ Below w.heap.size w w' := by
  obtain ⟨k1, k6⟩ := mode_of hk
  have RS := rnd_scaled r (10 ^ p) k (Nat.pow_pos (by decide)) k1 k6
  have LT := dM_lt h3 p1 k1 k6
  unfold dM at LT ⊢
  unfold dT
  obtain ⟨M, hM⟩ : ∃ M, L.rndQ k (r * (((10 ^ p : Nat) : Int) : Rat)) = M := ⟨_, rfl⟩
  rw [hM] at RS LT ⊢
  obtain ⟨V, hV⟩ : ∃ V, M.natAbs = V := ⟨_, rfl⟩
  rw [hV] at RS LT ⊢
  have l6 := six_words LT
  have hb : nb V ≤ 32000 := Nat.le_trans (nb_le (k := 64 * 311) (by rw [pw_two] at LT; exact Int.ofNat_lt.1 LT)) (by decide)
  obtain ⟨c0, t0, dc, _, _⟩ := dec_cons V
  have l0 : 1 ≤ (decDigits V).length := by rw [dc, List.length_cons]; omega
  obtain ⟨l, hl⟩ : ∃ l, decDigits V = l := ⟨_, rfl⟩
  have zl : (sB l).size = l.length := sB_size l
  obtain ⟨T, hT⟩ : ∃ T : Nat, 10 ^ p = T := ⟨_, rfl⟩
  have T54 := ten_1024 p1
  rw [hT] at RS T54
  have CR' : ∀ x, Below w.heap.size w x → Calls Tryz.prog 47 #[.agg #[.string n, .string d]] x fun e w' => ∃ (a : Option Addr × Option Addr) (l c : Nat × Nat), e = .returned (.tuple #[.agg #[.bool (decide (r.num < 0)), .slice a.1 l.1 c.1, .slice a.2 l.2 c.2], .int .i64 0]) ∧ (Nn w' a.1 l.1 c.1 (r.num.natAbs : Int) ∧ Nn w' a.2 l.2 c.2 (r.den : Int)) ∧ Below x.heap.size x w' := fun x _ => by
    have := Read_r r1 x
    rwa [← e1] at this
  have CW := IsWay_b hk
  have CO : ∀ x, Calls Tryz.prog 65 #[.int .u64 10] x fun e w' => ∃ a l c, e = .returned (.agg #[.slice a l c]) ∧ Nn w' a l c 10 ∧ Below x.heap.size x w' := fun x => Of_n 10 x (by decide) (by decide)
  have CP : ∀ x a l c, Nn x a l c 10 → Calls Tryz.prog 66 #[.agg #[.slice a l c], .int .i64 (p : Int)] x fun e w' => ∃ a l c, e = .returned (.agg #[.slice a l c]) ∧ Nn w' a l c (T : Int) ∧ Below x.heap.size x w' := fun x a l c h => by
    have := Pow_n a l c 10 p x h (by omega) (K := 54) (by decide) (by decide) (by rw [hT]; exact T54)
    rwa [hT] at this
  have CM : ∀ x a l c a' l' c', Nn x a l c (r.num.natAbs : Int) → Nn x a' l' c' (T : Int) → Calls Tryz.prog 64 #[.agg #[.slice a l c], .agg #[.slice a' l' c']] x fun e w' => ∃ a l c, e = .returned (.agg #[.slice a l c]) ∧ Nn w' a l c ((r.num.natAbs : Int) * (T : Int)) ∧ Below x.heap.size x w' := fun x a l c a' l' c' h h' => Mul_n h h' h3.1 T54 (by unfold MulOK; omega)
  have Q310 : (r.num.natAbs : Int) * (T : Int) < pw 310 := (mul_pw (m := 256) (n := 54) (by omega) (by omega) h3.1 T54).2
  have CD : ∀ x a l c a' l' c', Nn x a l c ((r.num.natAbs : Int) * (T : Int)) → Nn x a' l' c' (r.den : Int) → Calls Tryz.prog 60 #[.agg #[.bool (decide (r.num < 0)), .slice a l c, .slice a' l' c'], .int .i64 k] x fun e w' => ∃ (a : Option Addr × Option Addr) (l c : Nat × Nat), e = .returned (.agg #[.bool (decide (M < 0)), .slice a.1 l.1 c.1, .slice a.2 l.2 c.2]) ∧ Nn w' a.1 l.1 c.1 (V : Int) ∧ Below x.heap.size x w' := by
    rintro x a l c a' l' c' ⟨xs, q1, n1, v1⟩ ⟨ys, q2, n2, v2⟩
    have m1 := len_of q1.1 n1 (n := 310) (by rw [v1]; exact Q310)
    have m2 := len_of q2.1 n2 (n := 256) (by rw [v2]; exact h3.2)
    refine (Round_any _ _ _ xs ys k x q1 q2 n1 n2 (by rw [v2]; exact den_p r) (by omega) (by omega) k1 k6).mono ?_
    rintro e w' ⟨u1, u2, zs, us, rfl, z1, z2, z3, z4, _, _, b⟩
    obtain ⟨e1, e2, e3, rfl⟩ := z1.shape
    obtain ⟨e4, e5, e6, rfl⟩ := z4.shape
    rw [v1, v2, RS.1] at z3
    exact ⟨(e1, e4), (e2, e5), (e3, e6), by rw [z3, RS.2], ⟨zs, z1, z2, z3⟩, b⟩
  have CX : ∀ x a i c, Nn x a i c (V : Int) → Gw x → Calls Tryz.prog 67 #[.agg #[.slice a i c]] x fun e w' => e = .returned (.string (sB l)) ∧ Below x.heap.size x w' := fun x a l' c h g => by
    have := Text_any a l' c V x h hb g
    rwa [hl] at this
  rw [hl] at l0 l6 ⊢
  have hd0 : IntKind.i64.wrap ((p : Int) + 1) = (p : Int) + 1 := wrapI _ (by omega) (by omega)
  have CS : ∀ (b : List UInt8), b.length ≤ 8388608 → ∀ x, Calls Tryz.prog 69 #[.bool (decide (M < 0)), .string (sB b)] x fun e w' => e = .returned (.string (sB (sg (decide (M < 0)) b))) ∧ w' = x := fun b hb x => WSign_any _ b x hb
  have sgl : ∀ (g : Bool) (b : List UInt8), (sg g b).length ≤ b.length + 1 := fun g b => by cases g <;> simp [sg]
  by_cases hk : l.length < p + 1
  · -- something lacks
    have pl : (padl p l).length = p + 1 := by rw [padl_len]; omega
    rw [if_neg (by omega), show dott p (padl p l) = (padl p l).take 1 ++ 46 :: (padl p l).drop 1 by unfold dott; rw [if_pos (by omega), pl, show p + 1 - p = 1 by omega]]
    have zp : (sB (padl p l)).size = p + 1 := by rw [sB_size, pl]
    have hd1 : IntKind.i64.wrap ((p : Int) + 1 - ((sB l).size : Int)) = (p : Int) + 1 - ((sB l).size : Int) := wrapI _ (by omega) (by omega)
    have CU : ∀ x, Calls Tryz.prog 68 #[.string ⟨#[48]⟩, .int .i64 ((p : Int) + 1 - ((sB l).size : Int))] x fun e w' => e = .returned (.string (sB (List.replicate (p + 1 - l.length) 48))) ∧ Below x.heap.size x w' := fun x => by
      rw [← rep_one, show (p : Int) + 1 - ((sB l).size : Int) = ((p + 1 - l.length : Nat) : Int) by rw [zl]; omega]
      exact Tryz.strings_Repeat ⟨#[48]⟩ (p + 1 - l.length) x (by omega) (by simp [ByteArray.size]; omega)
    exact Decimal_lack n d (sB l) (sB (List.replicate (p + 1 - l.length) 48)) (sB (padl p l)) (sB ((padl p l).take 1)) (sB ((padl p l).drop 1)) (sB (sg (decide (M < 0)) ((padl p l).take 1))) (sB (46 :: (padl p l).drop 1)) _ _ _ _ _ _ _ _ (p : Int) k w G (by omega) (by omega) hd0 hd1 (by omega) (sB_add _ _) (by rw [sB_size, List.length_replicate]; omega) (by omega) (by omega) (wrapI _ (by omega) (by omega)) 1 (by omega) (by omega) (ext_take _ _) (ext_drop _ _ _ (sB_size _)) (sB_cons _ _) (by rw [sB_add, sg_app]) (by rw [sB_size, List.length_drop]; omega) (by rw [sB_size, List.length_cons, List.length_drop]; omega) (by rw [sB_size]; have := sgl (decide (M < 0)) ((padl p l).take 1); rw [List.length_take] at this; omega) CR' CW CO CP CM CD CX CU (CS _ (by rw [List.length_take]; omega))
  · have pe := padl_enough (p := p) (l := l) (by omega)
    rw [pe]
    have hd1 : IntKind.i64.wrap ((p : Int) + 1 - ((sB l).size : Int)) = (p : Int) + 1 - ((sB l).size : Int) := wrapI _ (by omega) (by omega)
    by_cases lo : 4096 < l.length
    · rw [if_pos lo]
      exact Decimal_long n d (sB l) _ _ _ _ _ _ _ (p : Int) k w G (by omega) (by omega) hd0 hd1 (by omega) (by omega) CR' CW CO CP CM CD CX
    · rw [if_neg lo]
      obtain ⟨pt, hpt⟩ : ∃ pt, l.length - p = pt := ⟨_, rfl⟩
      by_cases p0 : 0 < p
      · rw [show dott p l = l.take pt ++ 46 :: l.drop pt by unfold dott; rw [if_pos p0, hpt]]
        exact Decimal_way n d (sB l) (sB (l.take pt)) (sB (l.drop pt)) (sB (sg (decide (M < 0)) (l.take pt))) (sB (46 :: l.drop pt)) _ _ _ _ _ _ _ _ (p : Int) k w G (by omega) (by omega) hd0 hd1 (by omega) (by omega) (wrapI _ (by omega) (by omega)) pt (by omega) (by omega) (ext_take _ _) (ext_drop _ _ _ zl) (sB_cons _ _) (by rw [sB_add, sg_app]) (by rw [sB_size, List.length_drop]; omega) (by rw [sB_size, List.length_cons, List.length_drop]; omega) (by rw [sB_size]; have := sgl (decide (M < 0)) (l.take pt); rw [List.length_take] at this; omega) CR' CW CO CP CM CD CX (CS _ (by rw [List.length_take]; omega))
      · rw [show dott p l = l.take pt by unfold dott; rw [if_neg p0, List.take_of_length_le (by omega)]]
        exact Decimal_whole n d (sB l) (sB (l.take pt)) (sB (sg (decide (M < 0)) (l.take pt))) _ _ _ _ _ _ _ (p : Int) k w G (by omega) (by omega) (by omega) hd0 hd1 (by omega) (by omega) (wrapI _ (by omega) (by omega)) pt (by omega) (by omega) (ext_take _ _) CR' CW CO CP CM CD CX (CS _ (by rw [List.length_take]; omega))
end Go.Proofs.YtebilgnmnambnaaGreatDoor.Mo
