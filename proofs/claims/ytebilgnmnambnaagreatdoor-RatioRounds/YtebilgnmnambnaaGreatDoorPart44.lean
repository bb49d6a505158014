import Derived.Test.YtebilgnmnambnaaGreatDoorPart40
import Derived.Test.YtebilgnmnambnaaGreatDoorPart41
import Derived.Test.YtebilgnmnambnaaGreatDoorPart43
import Derived.Test.YtebilgnmnambnaaGreatDoorPart33
import Derived.Test.YtebilgnmnambnaaGreatDoorPart13
import Derived.Test.YtebilgnmnambnaaGreatDoorPart39
import Derived.Test.YtebilgnmnambnaaGreatDoorPart42
import Derived.Test.YtebilgnmnambnaaGreatDoorPart24
import Derived.Deep.DeepCutAuto

namespace Go.Proofs.YtebilgnmnambnaaGreatDoor.Mo
open Go.RowKit Fu Tn Go.Lib Dc
theorem Mode_b {k : Int} {b : Bool} (h : (decide (1 ≤ k) && decide (k ≤ 6)) = b) (x : World) : Calls Tryz.prog 62 #[.int .i64 k] x fun e w' => e = .returned (.bool b) ∧ Below x.heap.size x w' := by
  refine (Mode_any k x).mono ?_
  rintro e w' ⟨rfl, hw⟩
  exact ⟨by rw [h], hw ▸ Below.refl _ _⟩
theorem IsWay_b {k : Int} {b : Bool} (h : (decide (1 ≤ k) && decide (k ≤ 6)) = b) (x : World) : Calls Tryz.prog 59 #[.int .i64 k] x fun e w' => e = .returned (.bool b) ∧ w' = x := by
  have := IsWay_any k x
  rwa [h] at this
theorem mode_of {k : Int} (h : (decide (1 ≤ k) && decide (k ≤ 6)) = true) : 1 ≤ k ∧ k ≤ 6 := by
  rw [Bool.and_eq_true, decide_eq_true_eq, decide_eq_true_eq] at h
  exact h
theorem QRound_n (a : Value) (r : Rat) (K : Nat) (way : Int) (w : World) (ha : L.IsQ w a r) (hQ : L.QS r K) (hK : K ≤ 100000) : Calls Tryz.prog 71 #[a, .int .i64 way] w (Qf ((L.rndQ way r : Int) : Rat) w) := by
  refine qf_of (L.QRound_h (fun a b r s K w h1 h2 h3 h4 h5 => QCmp_s a b r s K w h1 h2 h3 h4 h5) (fun a b r s K w h1 h2 h3 h4 h5 => (QAdd_s a b r s K w h1 h2 h3 h4 h5).mono ?_) a r K way w ha hQ hK)
  rintro e w' ⟨_, _, _, _, _, _, _, rfl, h, b⟩
  exact ⟨_, rfl, h, b⟩
theorem To_q {r s : Rat} {k : Int} (h3 : PS r 256) (h4 : PS s 256) (s0 : s ≠ 0) (k1 : 1 ≤ k) (k6 : k ≤ 6) (x : World) (v1 v2 : Value) (g1 : L.IsQ x v1 r) (g2 : L.IsQ x v2 s) : Calls Tryz.prog 63 #[v1, v2, .int .i64 k] x (Qf (((L.rndQ k (r / s) : Int) : Rat) * s) x) := by
  have hd : PS (r / s) 512 := by rw [Rat.div_def]; exact (h3.mul (h4.inv s0)).mono (by omega)
  have hm : PS ((L.rndQ k (r / s) : Int) : Rat) 513 := rnd_ps hd k1 k6
  have h4' : PS s 513 := h4.mono (by omega)
  obtain ⟨a1, l1, c1, a1', l1', c1', rfl, _⟩ := nl_isq g1
  obtain ⟨a2, l2, c2, a2', l2', c2', rfl, _⟩ := nl_isq g2
  exact To_walk _ _ _ _ _ _ _ _ _ _ _ _ _ _ k r s _ _ _ x g1 g2 (fun y u1 u2 e1 e2 => QDiv_s u1 u2 r s 768 y e1 e2 (qs_k h3 (by decide)) (qs_k h4 (by decide)) (by decide) s0) (fun y u1 e1 => QRound_n u1 (r / s) 1536 k y e1 (qs_k hd (by decide)) (by decide)) (fun y u1 u2 e1 e2 => QMul_s u1 u2 _ s 1539 y e1 e2 (qs_k hm (by decide)) (qs_k h4' (by decide)) (by decide))
set_option maxRecDepth 100000 in
theorem both_Round (n d m k : ByteArray) (way : Int) (w : World) (hn : n.size ≤ 9223372036854775807) (hd : d.size ≤ 9223372036854775807) (hm : m.size ≤ 9223372036854775807) (hk : k.size ≤ 9223372036854775807) (G : Gw w) : ∃ (u v : ByteArray) (e : Int), (∀ x, Below w.heap.size w x → Calls Tryz.prog 13 #[.agg #[.string n, .string d], .agg #[.string m, .string k], .int .i64 way] x fun e' w' => e' = .returned (.tuple #[.agg #[.string u, .string v], .int .i64 e]) ∧ Below x.heap.size x w') ∧ (∀ x, Below w.heap.size w x → Calls Tryz.prog 14 #[.agg #[.string n, .string d], .agg #[.string m, .string k], .int .i64 way] x fun e' w' => e' = .returned (.tuple #[.agg #[.string u, .string v], .int .i64 e]) ∧ Below x.heap.size x w') := by
  by_cases h : goodE n d ≠ 0 ∨ goodE m k ≠ 0
  · obtain ⟨c, hc, H1, H2⟩ := two_bad n d m k hn hd hm hk h
    exact ⟨⟨#[]⟩, ⟨#[]⟩, c, fun x _ => Round_err n d m k way c x (bne_z hc) (fun y _ => H1 y), fun x _ => RRound_err n d m k way c x (bne_z hc) (fun y _ => H2 y)⟩
  · have h1 : goodE n d = 0 := Classical.not_not.1 (fun z => h (Or.inl z))
    have h2 : goodE m k = 0 := Classical.not_not.1 (fun z => h (Or.inr z))
    obtain ⟨r, e1, r1, h3, I1⟩ := good_ok h1 hn
    obtain ⟨s, e2, r2, h4, I2⟩ := good_ok h2 hm
    have TW := fun y => two_good hn hd hm hk h1 h2 y
    have CT : ∀ y, Calls Tryz.prog 57 #[.agg #[.string n, .string d], .agg #[.string m, .string k]] y (Fr2 r s y) := fun y => by
      rw [e1, e2]
      exact readTwo_f r1 r2 y
    have SG : ∀ (y : World) (v : Value), L.IsQ y v s → Calls Tryz.prog 53 #[v] y fun e w' => e = .returned (.int .i64 (psg s)) ∧ Below y.heap.size y w' := fun y v g => by
      have := L.Sign_q v s y g
      rwa [sgn_same] at this
    by_cases hs : psg s ≤ 0
    · exact ⟨⟨#[]⟩, ⟨#[]⟩, 1, fun x _ => Round_low n d m k way (psg s) r s x (decide_eq_true hs) (fun y _ => CT y) (fun y v g => Sign_p v s y g), fun x _ => RRound_low n d m k way (psg s) s x (decide_eq_true hs) (fun y _ => TW y) (fun y _ => I2 y) SG⟩
    · have s0 : s ≠ 0 := fun z => hs (by rw [z]; decide +kernel)
      by_cases hw : (decide (1 ≤ way) && decide (way ≤ 6)) = true
      · obtain ⟨k1, k6⟩ := mode_of hw
        have hp : PS (r * s⁻¹) 512 := (h3.mul (h4.inv s0)).mono (by omega)
        have hq : PS ((L.rndQ way (r * s⁻¹) : Int) : Rat) 513 := rnd_ps hp k1 k6
        have ht : PS (((L.rndQ way (r * s⁻¹) : Int) : Rat) * s) 769 := (hq.mul h4).mono (by omega)
        obtain ⟨t, et⟩ : ∃ t, ((L.rndQ way (r * s⁻¹) : Int) : Rat) * s = t := ⟨_, rfl⟩
        rw [et] at ht
        refine ⟨wn t, wd t, (wrA t).2, fun x b => ?_, fun x b => ?_⟩
        · refine Round_ok n d m k way (psg s) r s s⁻¹ (r * s⁻¹) ((L.rndQ way (r * s⁻¹) : Int) : Rat) t (wn t) (wd t) (wrA t).2 x (decide_eq_false hs) (fun y _ => CT y) (fun y v g => Sign_p v s y g) (IsWay_b hw) (fun y v g => fa_of (Inverse_p v s y g s0)) (fun y v1 v2 g g' => fa_of (Times_p v1 v2 r s⁻¹ 256 256 y g g' h3 (h4.inv s0) ok256)) (fun y v g => fa_of (Round_p v (r * s⁻¹) way 512 y g hp (by decide) k1 k6)) (fun y v1 v2 g g' => ?_) (fun y v b' g => Ratio_any v t y g (ht.mono (by decide)) (G.grow (bel' b b')))
          have := Times_p v1 v2 _ s 513 256 y g g' hq h4 (by unfold MulOK; omega)
          rw [et] at this
          exact fa_of this
        · refine RRound_ok n d m k way (psg s) r s t (wn t) (wd t) (wrA t).2 x (decide_eq_false hs) (fun y _ => TW y) (fun y _ => I1 y) (fun y _ => I2 y) SG (Mode_b hw) (fun y v1 v2 g1 g2 => ?_) (fun y v g => L.Out_any v t 2307 y g (qs_k ht (by decide)) (by decide))
          have := To_q h3 h4 s0 k1 k6 y v1 v2 g1 g2
          rwa [Rat.div_def, et] at this
      · have hw' : (decide (1 ≤ way) && decide (way ≤ 6)) = false := Bool.eq_false_iff.2 hw
        exact ⟨⟨#[]⟩, ⟨#[]⟩, 1, fun x _ => Round_way n d m k way (psg s) r s x (decide_eq_false hs) (fun y _ => CT y) (fun y v g => Sign_p v s y g) (IsWay_b hw'), fun x _ => RRound_way n d m k way (psg s) s x (decide_eq_false hs) (fun y _ => TW y) (fun y _ => I2 y) SG (Mode_b hw')⟩
end Go.Proofs.YtebilgnmnambnaaGreatDoor.Mo

namespace Go.Proofs.YtebilgnmnambnaaGreatDoor.Mo
open Go.RowKit Fu Tn Go.Lib Dc
theorem fr3 {g : Bool} {a0 a1 : Option Addr} {l0 c0 l1 c1 : Nat} (i : Nat) (k : IntKind) (z : Int) : (#[.bool g, .slice a0 l0 c0, .slice a1 l1 c1] : Array Value)[i]? ≠ some (.int k z) := by
 rcases (show i = 0 ∨ i = 1 ∨ i = 2 ∨ 3 ≤ i by omega) with rfl | rfl | rfl | h
 ·simp
 ·simp
 ·simp
 ·rw [Array.getElem?_eq_none (by simpa using h)]; simp
theorem Of_n (X : Int) (w : World) (h0 : 0 ≤ X) (h1 : X < 18446744073709551616) :
  Calls Tryz.prog 65 #[.int .u64 X] w fun e w' => ∃ a l c, e = .returned (.agg #[.slice a l c]) ∧ Nn w' a l c X ∧ Below w.heap.size w w' := by
 refine (Of_any X w h0 h1).mono ?_
 rintro e w' ⟨r, zs, rfl, hr, hn, hv, b⟩
 obtain ⟨a, l, c, rfl⟩ := hr.shape
 exact ⟨a, l, c, rfl, ⟨zs, hr, hn, hv⟩, b⟩
end Go.Proofs.YtebilgnmnambnaaGreatDoor.Mo

namespace Go.Proofs.YtebilgnmnambnaaGreatDoor.Mo
open Go.RowKit Fu Tn Go.Lib Dc
set_option maxHeartbeats 6400000 in
set_option maxRecDepth 100000 in
theorem Decimal_way (s1 t1 D H E S F R : ByteArray) (g1 g2 : Bool) (O1 D1 T Q Z p k : Int) (w : World) (G : Gw w)
  (p0 : 0 < p) (p1 : p ≤ 1024) (hd0 : IntKind.i64.wrap (p + 1) = p + 1) (hd1 : IntKind.i64.wrap (p + 1 - (D.size : Int)) = p + 1 - (D.size : Int)) (hl : ¬ p + 1 - (D.size : Int) > 0) (hl2 : ¬ (D.size : Int) > 4096) (hd2 : IntKind.i64.wrap ((D.size : Int) - p) = (D.size : Int) - p)
  (pt : Nat) (hpt : (D.size : Int) - p = (pt : Int)) (hle : pt ≤ D.size) (hH : D.extract 0 pt = H) (hE : D.extract pt D.size = E)
  (hF : (⟨#[46]⟩ : ByteArray) ++ E = F) (hR : S ++ F = R) (zE : E.size ≤ 4096) (zF : F.size ≤ 4097) (zS : S.size ≤ 4097)
  (CR' : ∀ x, Below w.heap.size w x → Calls Tryz.prog 47 #[.agg #[.string s1, .string t1]] x fun e w' => ∃ (a : Option Addr × Option Addr) (l c : Nat × Nat), e = .returned (.tuple #[.agg #[.bool g1, .slice a.1 l.1 c.1, .slice a.2 l.2 c.2], .int .i64 0]) ∧ (Nn w' a.1 l.1 c.1 O1 ∧ Nn w' a.2 l.2 c.2 D1) ∧ Below x.heap.size x w')
  (CW : ∀ x, Calls Tryz.prog 59 #[.int .i64 k] x fun e w' => e = .returned (.bool true) ∧ w' = x)
  (CO : ∀ x, Calls Tryz.prog 65 #[.int .u64 10] x fun e w' => ∃ a l c, e = .returned (.agg #[.slice a l c]) ∧ Nn w' a l c 10 ∧ Below x.heap.size x w')
  (CP : ∀ x a l c, Nn x a l c 10 → Calls Tryz.prog 66 #[.agg #[.slice a l c], .int .i64 p] x fun e w' => ∃ a l c, e = .returned (.agg #[.slice a l c]) ∧ Nn w' a l c T ∧ Below x.heap.size x w')
  (CM : ∀ x a l c a' l' c', Nn x a l c O1 → Nn x a' l' c' T → Calls Tryz.prog 64 #[.agg #[.slice a l c], .agg #[.slice a' l' c']] x fun e w' => ∃ a l c, e = .returned (.agg #[.slice a l c]) ∧ Nn w' a l c Q ∧ Below x.heap.size x w')
  (CD : ∀ x a l c a' l' c', Nn x a l c Q → Nn x a' l' c' D1 → Calls Tryz.prog 60 #[.agg #[.bool g1, .slice a l c, .slice a' l' c'], .int .i64 k] x fun e w' => ∃ (a : Option Addr × Option Addr) (l c : Nat × Nat), e = .returned (.agg #[.bool g2, .slice a.1 l.1 c.1, .slice a.2 l.2 c.2]) ∧ Nn w' a.1 l.1 c.1 Z ∧ Below x.heap.size x w')
  (CX : ∀ x a l c, Nn x a l c Z → Gw x → Calls Tryz.prog 67 #[.agg #[.slice a l c]] x fun e w' => e = .returned (.string D) ∧ Below x.heap.size x w')
  (CS : ∀ x, Calls Tryz.prog 69 #[.bool g2, .string H] x fun e w' => e = .returned (.string S) ∧ w' = x) :
  Calls Tryz.prog 15 #[.agg #[.string s1, .string t1], .int .i64 p, .int .i64 k] w fun e w' => e = .returned (.tuple #[.string R, .int .i64 0]) ∧ Below w.heap.size w w' := by
 have KA := Blk.new w #[.string s1, .string t1] 23
 have pr : Below w.heap.size w (w.alloc (.cells #[.string s1, .string t1] 23)) := (Below.refl _ _).alloc (Nat.le_refl _) _
 have q0 : ¬ p < 0 := by omega
 have q1 : ¬ p > 1024 := by omega
 go_enter Tryz.func15, Tryz.ntmps15
 go_wp2_with fail
 have ka0 := KA.at 0
 have ka1 := KA.at 1
 simp at ka0 ka1
 generalize (w.alloc (.cells #[.string s1, .string t1] 23)) = W at *
 go_wp2_with (first
  | (go_at_call 47; go_must (refine (CR' _ pr).mono ?_; rintro e w1 ⟨p_, q_, r_, rfl, H', b1⟩; (have al := ((Below.refl w1.heap.size w1).alloc (Nat.le_refl _) (.cells #[.bool g1, .slice p_.1 q_.1 r_.1, .slice p_.2 q_.2 r_.2] 67))); (have b2 := bel' b1 al); (have pB := bel' pr b2); (have n1 := (⟨H'.1.grow al, H'.2.grow al⟩ : _ ∧ _)); (have KF := Rb.new w1 (.bool g1) (.slice p_.1 q_.1 r_.1) (.slice p_.2 q_.2 r_.2) 67); (have kf0 := KF.c0); (have kf1 := KF.c1); (have kf2 := KF.c2)))
  | (go_at_call 59; refine (CW _).mono ?_; rintro e x1 ⟨rfl, rfl⟩)
  | fail)
 generalize w1.alloc (.cells #[.bool g1, .slice p_.1 q_.1 r_.1, .slice p_.2 q_.2 r_.2] 67) = WA at *
 have hXl : w.heap.size < w1.heap.size := by have := KA.lt; have := b1.size; omega
 generalize w1.heap.size = X at *
 clear CR' CW KA ka0 ka1 H' al b2 kf0 kf1 kf2
 have kf0 := KF.c0
 have kf1 := KF.c1
 have kf2 := KF.c2
 go_cut [] (fun wc => ∃ a l c, Nn wc a l c Q ∧ Nn wc p_.2 q_.2 r_.2 D1 ∧ Rb wc X (.bool g1) (.slice a l c) (.slice p_.2 q_.2 r_.2) ∧ Below w.heap.size w wc)
 case first =>
  go_region_with (first
   | (go_at_call 65; refine (CO _).mono ?_; rintro e y1 ⟨oa, ol, oc, rfl, o1, d1⟩; have d1 := undrew d1; have e1 := (KF.grow d1).c1)
   | (go_at_call 66; refine (CP _ _ _ _ o1).mono ?_; rintro e y2 ⟨ta, tl, tc, rfl, o2, d2⟩; have d2 := bel' d1 d2; have e2 := (KF.grow d2).c1)
   | (go_at_call 64; refine (CM _ _ _ _ _ _ _ (n1.1.grow d2) o2).mono ?_; rintro e y3 ⟨ma, ml, mc, rfl, o3, d3⟩; have d3 := bel' d2 d3; have K3 := KF.grow d3; have e3 := K3.c1; have e4 := K3.f1)
   | fail)
  all_goals
   go_wp2_with fail
   go_meet
   case rel =>
    have B3 := K3.bk.choose_spec
    have f1 := o3.off B3 fr3
    have n2 := n1.2.grow d3
    have f2 := n2.off B3 fr3
    exact ⟨ma, ml, mc, o3.set f1 1 _, n2.set f2 1 _, Rb.ofB (by simpa using bput B3 1 (.slice ma ml mc)), (bel' pB d3).setCell (p := ⟨X, 1, none⟩) (show w.heap.size ≤ X by omega) _⟩
 case rest =>
  rename World => wB
  obtain ⟨ma, ml, mc, m1, m2, KB, pC⟩ := hcut
  clear KF kf0 kf1 kf2 n1 pB CO CP CM
  have kb0 := KB.c0
  have kb1 := KB.c1
  have kb2 := KB.c2
  go_wp2_with (first
   | (go_at_call 60; refine (CD _ _ _ _ _ _ _ m1 m2).mono ?_; rintro e w2 ⟨ra, rl, rc, rfl, z1, d1⟩; have al := (Below.refl w2.heap.size w2).alloc (Nat.le_refl _) (.cells #[.bool g2, .slice ra.1 rl.1 rc.1, .slice ra.2 rl.2 rc.2] 67); have d2 := bel' d1 al; have KY := Rb.new w2 (.bool g2) (.slice ra.1 rl.1 rc.1) (.slice ra.2 rl.2 rc.2) 67; have z2 := z1.grow al; have ky1 := KY.c1)
   | (go_at_call 67; refine (CX _ _ _ _ z2 (G.grow (bel' pC d2))).mono ?_; rintro e w3 ⟨rfl, d3⟩; have d4 := bel' d2 d3; have KZ := KY.grow d3; have kz := KZ.c0)
   | fail)
  go_region_held3 (fun x => x.cell? ⟨w2.heap.size, 0, none⟩ = some (.bool g2)) (go_keep) (first
   | (go_at_call 69; refine (CS _).mono ?_; rintro e w5 ⟨rfl, rfl⟩; have kz5 := kz)
   | fail)
  go_wp2
  exact bodyPost_ret (v := .tuple #[.string R, .int .i64 0]) (by simp [results, Tryz.results15, go_sem]) rfl ⟨rfl, (bel' pC d4).drew⟩
end Go.Proofs.YtebilgnmnambnaaGreatDoor.Mo
