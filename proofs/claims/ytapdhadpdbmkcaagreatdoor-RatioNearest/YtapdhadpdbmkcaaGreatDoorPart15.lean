import Derived.Test.YtapdhadpdbmkcaaGreatDoorPart14
import Derived.Test.YtapdhadpdbmkcaaGreatDoorPart06
import Derived.Test.YtapdhadpdbmkcaaGreatDoorPart05
import Derived.Test.YtapdhadpdbmkcaaGreatDoorPart03
import Derived.Laws.AppendOwn
import Derived.Laws.OwnMore
import Derived.OwnWalk
import Derived.Laws.Strings

namespace Go.Proofs.YtapdhadpdbmkcaaGreatDoor
open Go.RowKit Tn

set_option maxRecDepth 100000 in
theorem isNatural_no (s : ByteArray) (w : World) (hs : s.size ≤ 1099511627776) (h : ¬ Digs s) :
  Calls Tryz.prog 39 #[.string s] w fun e w' => e = .returned (.bool false) ∧ w' = w := by
 go_enter Tryz.func39, Tryz.ntmps39
 go_wp2_with (go_at_call 78; go_must (refine (isDigits_no s _ hs h).mono ?_; rintro e w' ⟨rfl, rfl⟩))
 go_ret
 exact ⟨rfl, rfl⟩
set_option maxRecDepth 100000 in
theorem isNatural_long (s : ByteArray) (w : World) (hs : s.size ≤ 1099511627776) (h : Digs s) (h0 : (s[0]'h.1).toNat ≠ 48) :
  Calls Tryz.prog 39 #[.string s] w fun e w' => e = .returned (.bool true) ∧ w' = w := by
 have hz := h.1
 have hb : ((s[0].toNat : Int) != 48) = true := by rw [bne_iff_ne]; omega
 go_enter Tryz.func39, Tryz.ntmps39
 go_wp2_with (go_at_call 78; go_must (refine (isDigits_yes s _ hs h).mono ?_; rintro e w' ⟨rfl, rfl⟩))
 go_ret
 exact ⟨rfl, rfl⟩
set_option maxRecDepth 100000 in
theorem isNatural_nought (s : ByteArray) (w : World) (hs : s.size ≤ 1099511627776) (h : Digs s) (h0 : (s[0]'h.1).toNat = 48) :
  Calls Tryz.prog 39 #[.string s] w fun e w' => e = .returned (.bool (s.toList == [48])) ∧ w' = w := by
 have hz := h.1
 have hb : ((s[0].toNat : Int) != 48) = false := by rw [bne_eq_false_iff_eq]; omega
 go_enter Tryz.func39, Tryz.ntmps39
 go_wp2_with (go_at_call 78; go_must (refine (isDigits_yes s _ hs h).mono ?_; rintro e w' ⟨rfl, rfl⟩))
 go_ret
 exact ⟨rfl, rfl⟩

/-- A whole number from nought on, as the Words have it. -/
def Natl (s : ByteArray) : Prop := Digs s ∧ (s.size = 1 ∨ ∀ h : 0 < s.size, s[0].toNat ≠ 48)
theorem one_nought (s : ByteArray) (hz : 0 < s.size) (h : s[0].toNat = 48) : (s.toList == [48]) = decide (s.size = 1) := by
 rw [ByteArray.toList_eq]
 obtain ⟨⟨l⟩⟩ := s
 match l, hz, h with
 | [], hz, _ => exact absurd hz (by decide)
 | [x], _, h =>
  have e : x = 48 := UInt8.toNat_inj.1 h
  subst e
  rfl
 | x :: y :: t, _, _ =>
  have e : (ByteArray.mk ⟨x :: y :: t⟩).size = t.length + 2 := rfl
  rw [e]
  simp
/-- ratio.isNatural. -/
theorem isNatural_yes (s : ByteArray) (w : World) (hs : s.size ≤ 1099511627776) (h : Natl s) :
  Calls Tryz.prog 39 #[.string s] w fun e w' => e = .returned (.bool true) ∧ w' = w := by
 by_cases h0 : (s[0]'h.1.1).toNat = 48
 ·have := isNatural_nought s w hs h.1 h0
  rw [one_nought s h.1.1 h0] at this
  rcases h.2 with e | e
  ·rw [decide_eq_true e] at this; exact this
  ·exact absurd h0 (e h.1.1)
 ·exact isNatural_long s w hs h.1 h0
theorem isNatural_not (s : ByteArray) (w : World) (hs : s.size ≤ 1099511627776) (h : ¬ Natl s) :
  Calls Tryz.prog 39 #[.string s] w fun e w' => e = .returned (.bool false) ∧ w' = w := by
 by_cases d : Digs s
 ·by_cases h0 : (s[0]'d.1).toNat = 48
  ·have := isNatural_nought s w hs d h0
   rw [one_nought s d.1 h0] at this
   by_cases e : s.size = 1
   ·exact absurd ⟨d, Or.inl e⟩ h
   ·rw [decide_eq_false e] at this; exact this
  ·exact absurd ⟨d, Or.inr fun _ => h0⟩ h
 ·exact isNatural_no s w hs d
end Go.Proofs.YtapdhadpdbmkcaaGreatDoor

namespace Go.Proofs.YtapdhadpdbmkcaaGreatDoor.Mo
open Go.RowKit Dc

/-- Is a text a whole number from nought on? -/
def natB (s : ByteArray) : Bool := s.data.toList.all (fun c => decide (48 ≤ c.toNat ∧ c.toNat ≤ 57)) && decide (0 < s.size) && (decide (s.size = 1) || !decide (bt s 0 = 48))
/-- Is it 0? -/
def is0 (s : ByteArray) : Bool := s.toList == [48]
def is1 (s : ByteArray) : Bool := s.toList == [49]
theorem all_iff (s : ByteArray) : s.data.toList.all (fun c => decide (48 ≤ c.toNat ∧ c.toNat ≤ 57)) = true ↔ ∀ i (h : i < s.size), Dg s[i] := by
 rw [List.all_eq_true]
 constructor
 ·intro h i hi
  have := h (s.data.toList[i]'(by simpa using hi)) (List.getElem_mem _)
  simp only [decide_eq_true_iff] at this
  show 48 ≤ ((s[i]).toNat : Int) ∧ ((s[i]).toNat : Int) ≤ 57
  have e : s[i] = s.data.toList[i]'(by simpa using hi) := rfl
  rw [e]
  omega
 ·intro h c hc
  obtain ⟨i, hi, rfl⟩ := List.getElem_of_mem hc
  have := h i (by simpa using hi)
  unfold Go.Proofs.YtapdhadpdbmkcaaGreatDoor.Dg at this
  have e : s[i]'(by simpa using hi) = s.data.toList[i] := rfl
  rw [e] at this
  simp only [decide_eq_true_iff]
  omega
theorem natB_iff (s : ByteArray) : natB s = true ↔ Natl s := by
 unfold natB Natl Digs
 rw [Bool.and_eq_true, Bool.and_eq_true, all_iff, decide_eq_true_iff, Bool.or_eq_true, decide_eq_true_iff]
 have e : (!decide (bt s 0 = 48)) = true ↔ ∀ h : 0 < s.size, s[0].toNat ≠ 48 := by
  by_cases h0 : 0 < s.size
  ·rw [bt_in h0]
   simp [h0]
  ·rw [bt_out (by omega)]
   simp [h0]
 rw [e]
 constructor
 ·rintro ⟨⟨a, b⟩, c⟩; exact ⟨⟨b, a⟩, c⟩
 ·rintro ⟨⟨b, a⟩, c⟩; exact ⟨⟨a, b⟩, c⟩
theorem IsNatural_any (s : ByteArray) (w : World) (hs : s.size ≤ 1099511627776) :
  Calls Tryz.prog 39 #[.string s] w fun e w' => e = .returned (.bool (natB s)) ∧ w' = w := by
 rcases h : natB s with _ | _
 ·exact isNatural_not s w hs (fun e => by rw [(natB_iff s).2 e] at h; cases h)
 ·exact isNatural_yes s w hs ((natB_iff s).1 h)
/-- Is a text a whole number? -/
def whB (s : ByteArray) : Bool := natB (rest s) && !(neg s && is0 (rest s))
theorem rest_size (s : ByteArray) : (rest s).size ≤ s.size := by rw [rest_ex, ex_size]; omega
set_option maxHeartbeats 800000 in
set_option maxRecDepth 100000 in
theorem IsWhole_any (s : ByteArray) (w : World) (hs : s.size ≤ 1099511627776) :
  Calls Tryz.prog 38 #[.string s] w fun e w' => e = .returned (.bool (whB s)) ∧ Below w.heap.size w w' := by
 have hr := rest_size s
 have C := fun W => CutSign_any s W hs
 have N := fun W => IsNatural_any (rest s) W (by omega)
 unfold whB is0
 generalize rest s = z at *
 generalize neg s = g at *
 generalize natB z = b at *
 obtain ⟨q, hq⟩ : ∃ q, (z.toList == [48]) = q := ⟨_, rfl⟩
 rw [hq]
 cases b <;> cases g <;> cases q
 all_goals
  go_enter Tryz.func38, Tryz.ntmps38
  go_wp2_with (first
   | (go_at_call 40; (refine (C _).mono ?_); rintro e w' ⟨rfl, b1⟩)
   | (go_at_call 39; (refine (N _).mono ?_); rintro e w' ⟨rfl, rfl⟩))
  go_ret
  exact ⟨rfl, b1⟩
end Go.Proofs.YtapdhadpdbmkcaaGreatDoor.Mo

namespace Go.Proofs.YtapdhadpdbmkcaaGreatDoor
open Go.RowKit Tn

set_option maxRecDepth 100000 in
set_option maxHeartbeats 3200000 in
/-- (Nat).GCD. -/
theorem GCD_any (v1 v2 : Value) (xs ys : List Int) (w : World) (h1 : Rd w v1 xs) (h2 : Rd w v2 ys) (n1 : Nm xs) (n2 : Nm ys) (lx : xs.length ≤ 274877906944) (ly : ys.length ≤ 274877906944) :
  Calls Tryz.prog 42 #[.agg #[v1], .agg #[v2]] w fun e w' => ∃ r zs, e = .returned (.agg #[r]) ∧ Rd w' r zs ∧ Nm zs ∧ val zs = Int.gcd (val xs) (val ys) ∧ Below w.heap.size w w' := by
 have H1 : Hid (Rd w v1 xs) := h1
 have H2 : Hid (Rd w v2 ys) := h2
 obtain ⟨a1, m1, c1, rfl⟩ := h1.shape
 obtain ⟨a2, m2, c2, rfl⟩ := h2.shape
 clear h1 h2
 have pr : Below w.heap.size w (((w.alloc (.cells #[.slice a1 m1 c1] 42)).alloc (.cells #[.slice a2 m2 c2] 42)).alloc (.cells #[.slice none 0 0] 42)) := (((Below.refl _ _).alloc (Nat.le_refl _) _).alloc (by simp) _).alloc (by simp; omega) _
 go_enter Tryz.func42, Tryz.ntmps42
 go_upto_if 13 with (go_at_call 18; refine (Cmp_any _ _ xs ys _ (H1.out.grow pr) (H2.out.grow pr) n1 n2 (by omega)).mono ?_; rintro e w1 ⟨rfl, hb⟩; have X0 := (((Bx.new w _ _).alloc _).alloc _).below hb; have X1 := ((Bx.new _ _ _).alloc _).below hb; have X2 := (Bx.new _ _ _).below hb; simp only [World.size_alloc] at X1 X2)
 have p1 := pr.trans (hb.mono pr.size)
 have r1 : Hid (Rd w1 (.slice a1 m1 c1) xs) := H1.out.grow p1
 have r2 : Hid (Rd w1 (.slice a2 m2 c2) ys) := H2.out.grow p1
 go_cut [] (fun wc => St w.heap.size (Int.gcd (val xs) (val ys)) 274877906944 false w wc)
 case first =>
  have x0 := X0.1; have x0' := X0.2; have x1 := X1.1; have x1' := X1.2
  by_cases c : val xs < val ys
  ·have hc : cmp3 (val xs) (val ys) < 0 := by rw [cmp3_lt c]; omega
   have C : Hid (val xs < val ys) := c
   clear c
   go_wp2
   go_meet
   case rel =>
    have P := put2 X0 X1 X2 (.slice a2 m2 c2) (.slice a1 m1 c1)
    exact ⟨_, _, _, _, _, _, ys, xs, P.1, P.2.1, P.2.2.1, P.2.2.2.1 _ _ r2.out, P.2.2.2.1 _ _ r1.out, n2, n1, Int.le_of_lt C.out, Int.gcd_comm _ _, ly, fun h => by simp at h, P.2.2.2.2.1 _ _ (Nat.le_refl _) p1⟩
  ·have hc : 0 ≤ cmp3 (val xs) (val ys) := cmp3_ge (by omega)
   have C : Hid (val ys ≤ val xs) := by show _ ≤ _; omega
   clear c
   go_wp2
   go_meet
   case rel => exact ⟨_, _, _, _, _, _, xs, ys, X0, X1, X2, r1.out, r2.out, n1, n2, C.out, rfl, lx, fun h => by simp at h, p1⟩
 case rest =>
  generalize hGG : Int.gcd (val xs) (val ys) = G at *
  have HG : Hid (Int.gcd (val xs) (val ys) = G) := hGG
  clear hGG
  clear r1 r2 X0 X1 X2 p1 hb pr H1 H2
  have hcut' : St w.heap.size G 274877906944 false w wc := hcut
  clear hcut
  obtain ⟨a1, l1, c1, a2, l2, c2, A, B, Y0, Y1, Y2, rA, rB, nA, nB, vAB, hG, lA, -, pb⟩ := hcut'
  have lAB := len_mono rA.1 rB.1 nB vAB
  have Q : Hid (Int.gcd (val A) (val B) = G ∧ val B ≤ val A) := ⟨hG, vAB⟩
  have RA : Hid (Rd wc (.slice a1 l1 c1) A) := rA
  have RB : Hid (Rd wc (.slice a2 l2 c2) B) := rB
  obtain ⟨wA, _, _, e, _, _, gA⟩ := rA
  simp only [Value.slice.injEq] at e
  obtain ⟨rfl, rfl, rfl⟩ := e
  obtain ⟨wB, _, _, e, _, _, gB⟩ := rB
  simp only [Value.slice.injEq] at e
  obtain ⟨rfl, rfl, rfl⟩ := e
  have GA : Hid (0 < A.length → ∃ b o, a1 = some ⟨b, o, none⟩ ∧ Cells wc b o A) := gA
  have GB : Hid (0 < B.length → ∃ b o, a2 = some ⟨b, o, none⟩ ∧ Cells wc b o B) := gB
  clear hG vAB gA gB
  have y0 := Y0.1; have y1 := Y1.1
  go_upto_if 19 with fail
  go_cut [] (fun wd => St w.heap.size G 274877906944 true w wd)
  case first =>
   by_cases hl : 1 < B.length
   ·go_upto_region 4 with fail
    go_region_with (first
     | (go_at_call_of 81 c1; go_must (refine (copied_all a1 c1 A _ (by omega) (fun l => by obtain ⟨b, o, e, q⟩ := GA.out l; exact ⟨b, o, e, q.drew⟩)).mono ?_; rintro e w2 ⟨g1, rfl, f1, f2, O1, C1, b1⟩; have V1 := Y1.drew.below b1; have v1 := V1.1))
     | (go_at_call_of 81 c2; go_must (refine (copied_all a2 c2 B _ (by omega) (fun l => by obtain ⟨b, o, e, q⟩ := GB.out l; exact ⟨b, o, e, q.drew.grow b1⟩)).mono ?_; rintro e w3 ⟨g2, rfl, f3, f4, O2, C2, b2⟩; have Z0 := (Y0.drew.below b1).below b2; have Z1 := V1.below b2; have Z2 := (Y2.drew.below b1).below b2; have z0 := Z0.1; have z0' := Z0.2; have z1 := Z1.1; have z1' := Z1.2))
     | fail)
    all_goals
     go_wp2_with fail
     go_meet
     case rel =>
      have P := put2 Z0 Z1 Z2 (.slice (some ⟨g1, 0, none⟩) A.length A.length) (.slice (some ⟨g2, 0, none⟩) B.length B.length)
      have ds : wc.drew.heap.size = wc.heap.size := rfl
      have yl := Y2.lt
      have q2 := (pb.drew.trans (b1.mono (by have := pb.size; omega))).trans (b2.mono (by have := pb.size; have := b1.size; omega))
      exact ⟨_, _, _, _, _, _, A, B, P.1, P.2.1, P.2.2.1, P.2.2.2.1 _ _ ⟨wA, _, _, rfl, Nat.le_refl _, by unfold maxLen; omega, fun _ => ⟨_, _, rfl, C1.grow b2⟩⟩, P.2.2.2.1 _ _ ⟨wB, _, _, rfl, Nat.le_refl _, by unfold maxLen; omega, fun _ => ⟨_, _, rfl, C2⟩⟩, nA, nB, Q.out.2, Q.out.1, lA, fun _ _ => ⟨g1, g2, _, _, _, _, rfl, rfl, by omega, by omega, by omega, P.2.2.2.2.2 _ _ (O1.grow b2), P.2.2.2.2.2 _ _ O2⟩, P.2.2.2.2.1 _ _ (Nat.le_refl _) q2⟩
   ·go_wp2_with fail
    go_meet
    case rel => exact ⟨_, _, _, _, _, _, A, B, Y0, Y1, Y2, RA.out, RB.out, nA, nB, Q.out.2, Q.out.1, lA, fun _ h => absurd h hl, pb⟩
  case rest =>
   clear y0 y1 Y0 Y1 Y2 RA RB GA GB Q
   go_wp2_with fail
   go_loopw [] (fun wr => St w.heap.size G 274877906944 true w wr) (fun wr => boxNum (w.heap.size + 1) wr)
   case atStart => exact hcut
   case round =>
    clear hcut pb wA wB nA nB lA lAB
    obtain ⟨a1, l1, c1, a2, l2, c2, A, B, Y0, Y1, Y2, rA, rB, nA, nB, vAB, hG, lA, two, pb⟩ := hrel
    have lAB := len_mono rA.1 rB.1 nB vAB
    have MB : Hid _ := boxNum_rd Y1 rB
    have Q : Hid (Int.gcd (val A) (val B) = G ∧ val B ≤ val A) := ⟨hG, vAB⟩
    have RA : Hid (Rd wr (.slice a1 l1 c1) A) := rA
    have RB : Hid (Rd wr (.slice a2 l2 c2) B) := rB
    obtain ⟨wA, _, _, e, kA, kA', gA⟩ := rA
    simp only [Value.slice.injEq] at e
    obtain ⟨rfl, rfl, rfl⟩ := e
    obtain ⟨wB, _, _, e, kB, kB', gB⟩ := rB
    simp only [Value.slice.injEq] at e
    obtain ⟨rfl, rfl, rfl⟩ := e
    have y0 := Y0.1; have y1 := Y1.1
    by_cases hl : 1 < B.length
    ·obtain ⟨g1, g2, _, _, _, _, e1, e2, hne, hg1, hg2, O1, O2⟩ := two rfl hl
     simp only [Value.slice.injEq] at e1 e2
     obtain ⟨rfl, rfl, rfl⟩ := e1
     obtain ⟨rfl, rfl, rfl⟩ := e2
     obtain ⟨_, _, e, cA⟩ := gA (by omega)
     simp only [Option.some.injEq, Addr.mk.injEq] at e
     obtain ⟨rfl, rfl, _⟩ := e
     obtain ⟨_, _, e, cB⟩ := gB (by omega)
     simp only [Option.some.injEq, Addr.mk.injEq] at e
     obtain ⟨rfl, rfl, _⟩ := e
     clear hG vAB two gA gB
     go_wp2_with fail
     refine (foresee_any g1 0 g2 0 c1 c2 A.length B.length A B wr rfl rfl wA wB nA (by omega) lAB Q.out.2 (by omega) cA cB).mono ?_
     rintro e w1 ⟨⟨x0, y0', x1, y1', t, rfl, hs, hb⟩, hfar⟩
     have Z0 := Y0.below hb; have Z1 := Y1.below hb; have Z2 := Y2.below hb
     have V0 := Z0.alloc (.cells #[.int .u64 x0, .int .u64 y0', .int .u64 x1, .int .u64 y1', .bool t] 115)
     have V1 := Z1.alloc (.cells #[.int .u64 x0, .int .u64 y0', .int .u64 x1, .int .u64 y1', .bool t] 115)
     have V2 := Z2.alloc (.cells #[.int .u64 x0, .int .u64 y0', .int .u64 x1, .int .u64 y1', .bool t] 115)
     have v0 := V0.1; have v1 := V1.1; have v0' := V0.2; have v1' := V1.2
     have pv : Below wr.heap.size wr (w1.alloc (.cells #[.int .u64 x0, .int .u64 y0', .int .u64 x1, .int .u64 y1', .bool t] 115)) := hb.alloc hb.size _
     by_cases hz : x1 = 0
     ·subst hz
      clear hs hfar y0 y1
      go_wp2_with (go_at_call 44; go_must (refine (divmod_long _ _ (some ⟨g1, 0, none⟩) (some ⟨g2, 0, none⟩) c1 c2 A B _ rfl rfl (RA.out.grow pv) (RB.out.grow pv) nA nB Q.out.2 (by omega) (by omega)).mono ?_; rintro e w2 ⟨r1, r2, zs, rs, rfl, hr1, hn1, hr2, hn2, hv, hlt, hfr, hb2⟩; obtain ⟨q1, q2, q3, rfl⟩ := hr1.shape; obtain ⟨q4, q5, q6, rfl⟩ := hr2.shape; have HV : Hid _ := hv; clear hv; have U0 := V0.below hb2; have U1 := V1.below hb2; have U2 := V2.below hb2; have S0 := (U0.alloc (.cells #[.slice q1 q2 q3] 42)).alloc (.cells #[.slice q4 q5 q6] 42); have S1 := (U1.alloc (.cells #[.slice q1 q2 q3] 42)).alloc (.cells #[.slice q4 q5 q6] 42); have S2 := (U2.alloc (.cells #[.slice q1 q2 q3] 42)).alloc (.cells #[.slice q4 q5 q6] 42); have S7 := Bx.new (w2.alloc (.cells #[.slice q1 q2 q3] 42)) (.slice q4 q5 q6) 42; simp only [World.size_alloc] at S7; have s0 := S0.1; have s0' := S0.2; have s1 := S1.1; have s1' := S1.2; have s7 := S7.1))
      have pw2 := hb2.alloc hb2.size (.cells #[.slice q1 q2 q3] 42) |>.alloc (by simp; have := hb2.size; simp at this; omega) (.cells #[.slice q4 q5 q6] 42)
      have P := put2 S0 S1 S2 (.slice (some ⟨g2, 0, none⟩) B.length c2) (.slice q4 q5 q6)
      have RB2 : Hid _ := P.2.2.2.1 _ _ ((RB.out.grow pv).grow pw2)
      have RR2 : Hid _ := P.2.2.2.1 _ _ (hr2.grow (((Below.refl w2.heap.size w2).alloc (Nat.le_refl _) (.cells #[.slice q1 q2 q3] 42)).alloc (by simp) (.cells #[.slice q4 q5 q6] 42)))
      have M2 : Hid _ := boxNum_rd P.2.1.drew (Rd.drew RR2.out)
      have NX : Hid _ := St.drew (show St w.heap.size G 274877906944 true w _ from ⟨_, _, _, _, _, _, B, rs, P.1, P.2.1, P.2.2.1, RB2.out, RR2.out, nB, hn2, Int.le_of_lt hlt, (gcd_of_div HV.out).trans Q.out.1, by omega, fun _ _ => by
       obtain ⟨g, l, k, e, hg, ho, -⟩ := hfr
       have ol := O2.own.lt
       have yl := Y2.lt
       have ps := pv.size
       exact ⟨g2, g, _, _, _, _, rfl, e, by omega, hg2, by omega, P.2.2.2.2.2 _ _ ((O2.grow pv).grow pw2), P.2.2.2.2.2 _ _ (ho.grow (((Below.refl w2.heap.size w2).alloc (Nat.le_refl _) (.cells #[.slice q1 q2 q3] 42)).alloc (by simp) (.cells #[.slice q4 q5 q6] 42)))⟩, P.2.2.2.2.1 _ _ (Nat.le_refl _) ((pb.trans (pv.mono pb.size)).trans (pw2.mono (by have := pb.size; have := pv.size; omega)))⟩)
      have ul := U2.lt
      have m7 : (((w2.alloc (.cells #[.slice q1 q2 q3] 42)).alloc (.cells #[.slice q4 q5 q6] 42)).setCell ⟨w.heap.size, 0, none⟩ (.slice (some ⟨g2, 0, none⟩) B.length c2)).cell? ⟨w2.heap.size + 1, 0, none⟩ = some (.slice q4 q5 q6) := (World.cell?_setCell_other _ _ _ _ (by simp)).trans s7
      go_region
      all_goals
       go_wp2
       go_roundw
       case rel => exact NX.out
       case measure => rw [MB.out, M2.out]; have := val_nonneg hr2.1; omega
     ·rcases hs with hs | ⟨p0, q0, p1, q1, B0, BA, AX, BB, GG⟩
      ·exact absurd hs hz
      ·have l3 : A.length ≤ B.length + 1 := by
        by_cases c : A.length ≤ B.length + 1
        ·exact c
        ·obtain ⟨_, _, _, _, e⟩ := hfar (by omega); simp at e; exact absurd e.2.2.1 hz
       have F : Hid _ := And.intro BB GG
       have F2 : Hid _ := And.intro B0 (And.intro BA AX)
       have hz' : (x1 == 0) = false := by rw [beq_eq_false_iff_ne]; exact hz
       clear hfar BB GG B0 BA AX y0 y1
       go_wp2_with (go_at_call 83; go_must (refine (apply_all (w.heap.size + 1 + 1 + 1) g1 g2 c1 c2 A B x0 y0' x1 y1' t _ wA wB nA (by omega) lAB l3 (by omega) hne hg1 hg2 (O1.grow pv) (O2.grow pv) kA kB kA' kB' (cA.grow pv) (cB.grow pv) p0 q0 p1 q1 _ _ rfl rfl F2.out.1 F2.out.2.1 F2.out.2.2).mono ?_; rintro e w2 ⟨h1, h2, m1, m2, k1, k2, zs, rs, rfl, hne2, i1, i2, O3, O4, hr1, hn1, hr2, hn2, hv1, hv2, hb2⟩; have HV : Hid _ := And.intro hv1 hv2; clear hv1 hv2; have U0 := V0.under hb2 (by omega); have U1 := V1.under hb2 (by omega); have U2 := V2.under hb2 (by omega); have s0 := U0.1; have s0' := U0.2; have s1 := U1.1; have s1' := U1.2))
       have P := put2 U0 U1 U2 (.slice (some ⟨h1, 0, none⟩) m1 k1) (.slice (some ⟨h2, 0, none⟩) m2 k2)
       have M2 : Hid _ := boxNum_rd P.2.1 (P.2.2.2.1 _ _ hr2)
       have le1 : val rs ≤ val zs := by rw [HV.out.1, HV.out.2]; exact F2.out.2.1
       have le2 : val zs ≤ val A := by rw [HV.out.1]; exact F2.out.2.2
       have lt1 : val rs < val B := by rw [HV.out.2]; exact F.out.1
       have NX : Hid (St w.heap.size G 274877906944 true w _) := ⟨_, _, _, _, _, _, zs, rs, P.1, P.2.1, P.2.2.1, P.2.2.2.1 _ _ hr1, P.2.2.2.1 _ _ hr2, hn1, hn2, le1, by rw [HV.out.1, HV.out.2]; exact F.out.2.trans Q.out.1, by have := len_mono wA hr1.1 hn1 le2; omega, fun _ _ => ⟨h1, h2, _, _, _, _, rfl, rfl, hne2, i1, i2, P.2.2.2.2.2 _ _ O3, P.2.2.2.2.2 _ _ O4⟩, P.2.2.2.2.1 _ _ (Nat.le_refl _) ((pb.trans (pv.mono pb.size)).trans (hb2.mono (by omega)))⟩
       go_roundw
       case rel => exact NX.out
       case measure => rw [MB.out, M2.out]; have := val_nonneg hr2.1; omega
    ·clear two hG vAB
     have VA := val_nonneg wA
     by_cases h0 : B.length = 0
     ·have := List.eq_nil_of_length_eq_zero h0
      subst this
      clear gA gB
      go_wp2_with fail
      refine (iszero_len a2 _ c2 _).mono ?_
      rintro e w1 ⟨rfl, hb⟩
      have Z0 := Y0.below hb; have Z2 := Y2.below hb
      have z0 := Z0.1; have z2 := Z2.1; have z2' := Z2.2
      have S2 := (Z2.set (.slice a1 A.length c1)).1
      have G0 : Hid (val A = (G : Int)) := by have := Q.out.1; simp only [val] at this; rw [← this]; exact gcd_nought VA
      go_wp2
      refine bodyPost_ret (v := .agg #[.slice a1 A.length c1]) (by simp [results, Tryz.results42, go_sem, S2]) rfl ⟨_, A, rfl, (RA.out.grow hb).box Z2, nA, by rw [HG.out]; exact G0.out, below_put (pb.trans (hb.mono pb.size)) (by omega) _⟩
     ·obtain ⟨d, rfl⟩ : ∃ d, B = [d] := List.length_eq_one_iff.1 (by omega)
      obtain ⟨bb, bo, rfl, cB⟩ := gB (by simp)
      have cd : wr.cell? ⟨bb, bo, none⟩ = some (.int .u64 d) := by have := cB 0 (by simp); simpa [nth] using this
      have bl := lt_of_cell cd
      have d0 : 0 < d := by have := nm_top wB nB (by simp); simpa [nth] using this
      have d1 : d < 18446744073709551616 := wB.head.2
      have vd : val [d] = d := by simp [val]
      clear gA gB cB h0
      go_wp2_with fail
      refine (iszero_len (some ⟨bb, bo, none⟩) _ c2 _).mono ?_
      rintro e w1 ⟨rfl, hb⟩
      have Z0 := Y0.below hb; have Z1 := Y1.below hb; have Z2 := Y2.below hb
      have z0 := Z0.1; have z1 := Z1.1
      clear y0 y1
      have VD : Hid _ := vd
      clear vd
      go_wp2_with (go_at_call 44; go_must (refine (DivMod_any _ _ A [d] _ (RA.out.grow hb) (RB.out.grow hb) nA nB (by rw [VD.out]; exact d0) (by omega)).mono ?_; rintro e w2 ⟨r1, r2, zs, rs, rfl, hr1, hn1, hr2, hn2, hv1, hv2, hb2⟩; obtain ⟨q1, q2, q3, rfl⟩ := hr1.shape; obtain ⟨q4, q5, q6, rfl⟩ := hr2.shape; have HV : Hid _ := And.intro hv1 hv2; clear hv1 hv2))
      have S1 := ((Z1.below hb2).alloc (.cells #[.slice q1 q2 q3] 42)).alloc (.cells #[.slice q4 q5 q6] 42)
      have S2 := ((Z2.below hb2).alloc (.cells #[.slice q1 q2 q3] 42)).alloc (.cells #[.slice q4 q5 q6] 42)
      have S9 := Bx.new (w2.alloc (.cells #[.slice q1 q2 q3] 42)) (.slice q4 q5 q6) 42
      simp only [World.size_alloc] at S9
      have pa : Below w2.heap.size w2 ((w2.alloc (.cells #[.slice q1 q2 q3] 42)).alloc (.cells #[.slice q4 q5 q6] 42)) := ((Below.refl w2.heap.size w2).alloc (Nat.le_refl _) _).alloc (by simp) _
      have RR := hr2.grow pa
      have pc := (hb.trans (hb2.mono hb.size)).trans (pa.mono (by have := hb.size; have := hb2.size; omega))
      have c0 := (pc.cell (p := ⟨bb, bo, none⟩) bl).trans cd
      have pd := pb.trans (pc.mono pb.size)
      have ny := nth_bd hr2.1 0
      have gw := gcd_word (y := nth rs 0) d0 d1
      have FG : Hid ((Int.gcd d (nth rs 0) : Int) = G) := by
       have e2 := HV.out.2
       rw [VD.out] at e2
       have lt : val rs < d := by rw [e2]; exact Int.emod_lt_of_pos _ d0
       have q := Q.out.1
       rw [VD.out] at q
       show _ = _
       rw [low_word hr2.1 hn2 (by omega), e2, gcd_rec, q]
      have HRR : Hid _ := RR
      clear RR HV pa pc
      generalize (w2.alloc (.cells #[.slice q1 q2 q3] 42)).alloc (.cells #[.slice q4 q5 q6] 42) = W at *
      have bW := lt_of_cell c0
      have s1 := S1.1; have s2 := S2.1; have s2' := S2.2; have s9 := S9.1
      go_region_with (first
       | (go_at_call 66; go_must (refine (lowest_any _ rs _ (Rd.drew HRR.out) hn2).mono ?_; rintro e w3 ⟨rfl, b3⟩; have T1 := S1.drew.below b3; have t1 := T1.1; have T2 := S2.drew.below b3; have c3 := (b3.cell (p := ⟨bb, bo, none⟩) bW).trans c0))
       | (go_at_call 84; go_must (refine (commonWord_any d (nth rs 0) _ (by omega) d1 ny.1 ny.2).mono ?_; rintro e w4 ⟨rfl, k, rfl⟩))
       | (go_at_call 19; go_must (refine (Of_any (Int.gcd d (nth rs 0)) _ (by omega) gw).mono ?_; rintro e w5 ⟨r, us, rfl, hr, hn, hv, b5⟩; obtain ⟨u1, u2, u3, rfl⟩ := hr.shape; have HU : Hid _ := hv; clear hv; have R2 := (T2.below (below_drewN (Below.refl _ _) k)).below b5; have r2 := R2.1; have r2' := R2.2))
       | fail)
      all_goals
       have E2 := (R2.set (.slice u1 u2 u3)).1
       have ds : W.drew.heap.size = W.heap.size := rfl
       have p3 := pd.drew.trans (b3.mono (by have := pd.size; omega))
       have p4 := below_drewN p3 k
       have p5 := p4.trans (b5.mono p4.size)
       go_wp2
       refine bodyPost_ret (v := .agg #[.slice u1 u2 u3]) (by simp [results, Tryz.results42, go_sem, E2]) rfl ⟨_, us, rfl, hr.box R2, hn, by rw [HG.out]; exact HU.out.trans FG.out, below_put p5 (by omega) _⟩
end Go.Proofs.YtapdhadpdbmkcaaGreatDoor

namespace Go.Proofs.YtapdhadpdbmkcaaGreatDoor
open Go.RowKit Tn

theorem infoW : ∃ i, Tryz.prog.info? 26 = some i ∧ i.zero = some (.int .u64 0) ∧ i.size = 1 ∧ i.bytes = 8 := by
 have h : ((Tryz.prog.info? 26).map fun i => (i.zero, i.size, i.bytes)) = some (some (.int .u64 0), 1, 8) := by kernel_rfl
 obtain ⟨i, h1, h2⟩ := Option.map_eq_some_iff.1 h
 simp only [Prod.mk.injEq] at h2
 exact ⟨i, h1, h2.1, h2.2.1, h2.2.2⟩
/-- append(l, y) of words, l a row of the call's own. -/
theorem wpList_pushw {w : World} {ops : Array Oper} {rest : List Oper} {o : Oper} {a : Act} {Q : Exit → Act → World → Prop} (hgd : o.guard = none) (s x : Operand)
  (ho : o.op = .call { callee := .builtin .append, args := #[s, x], argTypes := #[40, 40] })
  (g0 cap0 : Nat) (Y : List Int) (hs : a.eval s = .slice (some ⟨g0, 0, none⟩) Y.length cap0) (base : Nat) (hown : w.ownsRow base 26 1 (.slice (some ⟨g0, 0, none⟩) Y.length cap0) Y.length (Y.map (Value.int .u64))) (hL : Y.length ≤ 1099511627776)
  (ad c : Nat) (y : Int) (hx : a.eval x = .slice (some ⟨ad, 0, none⟩) 1 c) (hn : w.cell? ⟨ad, 0, none⟩ = some (.int .u64 y)) (hbase : base ≤ w.heap.size)
  (h : ∀ g cap w', w'.ownsRow base 26 1 (.slice (some ⟨g, 0, none⟩) (Y ++ [y]).length cap) (Y ++ [y]).length ((Y ++ [y]).map (Value.int .u64)) → Below base w w' → wpList Tryz.prog ops Q rest (a.put o.dst (.slice (some ⟨g, 0, none⟩) (Y ++ [y]).length cap)) w') : wpList Tryz.prog ops Q (o :: rest) a w := by
 obtain ⟨i, hi, hz0, hz1, hz2⟩ := infoW
 refine wpList_append_own w hgd s x 40 ho base 26 i (.int .u64 0) 1 8 Tryz.underlying40 hi hz0 hz1 hz2 rfl (by decide) _ Y.length _ hs hown ⟨ad, 0, none⟩ 1 c [.int .u64 y] hx rfl ?_ (by intro u hu; simp at hu; subst hu; rfl) (by unfold maxLen; omega) (by omega) hbase ?_
 ·intro j u hj
  match j, hj with
  | 0, hj => simp at hj; subst hj; simpa [Addr.add] using hn
 ·intro v' w' hown' hgr hnil
  have hb : Below base w w' := by
   refine ⟨hgr.os, hgr.tape, hgr.output, hgr.size, fun k hk => hgr.block k (by omega) ?_⟩
   obtain ⟨_, hr⟩ := hown
   rcases hr with ⟨e, _⟩ | ⟨g, cap, cur, e, hb, _⟩
   ·cases e
   ·simp at e; simp [Value.ownBlock]; omega
  have hown2 : w'.ownsRow base 26 1 v' (Y ++ [y]).length ((Y ++ [y]).map (Value.int .u64)) := by simpa using hown'
  have hown3 := hown2
  obtain ⟨_, hr⟩ := hown2
  rcases hr with ⟨rfl, h0⟩ | ⟨g, cap, cur, rfl, _⟩
  ·simp at h0
  ·exact h g cap w' hown3 hb
theorem ownw_at {w : World} {base : Nat} {g cap : Nat} {Y : List Int} (h : w.ownsRow base 26 1 (.slice (some ⟨g, 0, none⟩) Y.length cap) Y.length (Y.map (Value.int .u64))) (k : Nat) (hk : k < Y.length) : w.cell? ⟨g, k, none⟩ = some (.int .u64 (nth Y k)) := by
 rw [h.cellAt k (by omega)]
 simp [nth, List.getD_eq_getElem?_getD, List.getElem?_eq_getElem hk]
theorem ownw_set {w : World} {base : Nat} {g cap : Nat} {Y : List Int} (h : w.ownsRow base 26 1 (.slice (some ⟨g, 0, none⟩) Y.length cap) Y.length (Y.map (Value.int .u64))) (k : Nat) (v : Int) : (w.setCell ⟨g, k, none⟩ (.int .u64 v)).ownsRow base 26 1 (.slice (some ⟨g, 0, none⟩) Y.length cap) Y.length ((Y.set k v).map (Value.int .u64)) := by
 have := (h.stored k (.int .u64 v)).1
 rwa [← List.map_set] at this
theorem ownw_lt {w : World} {base : Nat} {g cap n : Nat} {l : List Value} (h : w.ownsRow base 26 1 (.slice (some ⟨g, 0, none⟩) n cap) n l) : base ≤ g ∧ g < w.heap.size := h.lt g rfl
theorem ownw_cap {w : World} {base : Nat} {g cap n : Nat} {l : List Value} (h : w.ownsRow base 26 1 (.slice (some ⟨g, 0, none⟩) n cap) n l) : n ≤ cap ∧ cap ≤ 9223372036854775807 := by
 obtain ⟨_, hr⟩ := h
 rcases hr with ⟨e, _⟩ | ⟨g', cap', cur, e, _, _, h4, h5, _⟩
 ·cases e
 ·simp at e
  obtain ⟨rfl, rfl⟩ := e
  exact ⟨h4, by unfold maxLen at h5; omega⟩
/-- One word more of a row that is multiplied. -/
theorem mul_more {Z X : List Int} {k : Nat} {U C G lo hi : Int} (P : Part Z X k) (hk : k < X.length) (hv : val (Z.take k) + pw k * C = val (X.take k) * U + G) (l0 : 0 ≤ lo) (l1 : lo < 18446744073709551616) (he : lo + 18446744073709551616 * hi = nth X k * U + C) :
  Part (Z.set k lo) X (k + 1) ∧ val ((Z.set k lo).take (k + 1)) + pw (k + 1) * hi = val (X.take (k + 1)) * U + G := by
 refine ⟨P.step l0 l1, ?_⟩
 rw [P.val hk lo, val_at X k hk]
 simp only [pw]
 generalize pw k = p at *
 generalize val (Z.take k) = a at *
 generalize val (X.take k) = b at *
 generalize nth X k = x at *
 have : p * (lo + 18446744073709551616 * hi) = p * (x * U + C) := by rw [he]
 grind
end Go.Proofs.YtapdhadpdbmkcaaGreatDoor

namespace Go.Proofs.YtapdhadpdbmkcaaGreatDoor
open Go.RowKit Tn

def strLen : Value → Nat | .string b => b.size | _ => 0
theorem ex_to (D : ByteArray) (n : Nat) : (D.extract 0 n).data.toList = D.data.toList.take n := by simp
theorem ex_from (D : ByteArray) (n : Nat) : (D.extract n D.size).data.toList = D.data.toList.drop n := by
 have : D.size = D.data.toList.length := by rw [Array.length_toList]; rfl
 rw [this]
 simp only [ByteArray.data_extract, Array.toList_extract, List.extract_eq_take_drop]
 rw [List.take_of_length_le (by rw [List.length_drop]; omega)]
theorem own_growb {w w' : World} {base n : Nat} {e : TypeId} {v : Value} {xs : List Value} (h : w.ownsRow base e 1 v n xs) (k : Below w.heap.size w w') : w'.ownsRow base e 1 v n xs := by
 obtain ⟨h1, h2⟩ := h
 refine ⟨h1, ?_⟩
 rcases h2 with h2 | ⟨g, cap, cur, e1, e2, e3, e4⟩
 ·exact Or.inl h2
 ·exact Or.inr ⟨g, cap, cur, e1, e2, (k.block g (Own.lt ⟨cur, _, e3⟩)).trans e3, e4⟩
/-- Where Parse stands behind c digits. -/
structure Ps (l : List UInt8) (c : Nat) (D : ByteArray) (X : List Int) : Prop where
 le : c ≤ l.length
 rest : D.data.toList = l.drop c
 part : c = 0 ∧ X = [] ∨ (l.length - c) % 19 = 0
 wd : Wd X
 v : val X = (Dc.num (l.take c) : Int)
 len : X.length ≤ (c + 18) / 19
theorem Ps.size {l : List UInt8} {c : Nat} {D : ByteArray} {X : List Int} (h : Ps l c D X) : D.size = l.length - c := by
 have : D.size = D.data.toList.length := by rw [Array.length_toList]; rfl
 rw [this, h.rest, List.length_drop]
theorem Ps.next {l : List UInt8} {c n : Nat} {D : ByteArray} {X Y : List Int} (h : Ps l c D X) (hr : 0 < D.size) (hn : n = (D.size - 1) % 19 + 1) (hY : Wd Y) (hv : val Y = val X * 10000000000000000000 + (Dc.num ((l.drop c).take n) : Int)) (hl : Y.length ≤ X.length + 1) :
  Ps l (c + n) (D.extract n D.size) Y := by
 have hs := h.size
 have n1 : c + n ≤ l.length := by omega
 refine ⟨n1, by rw [ex_from, h.rest, List.drop_drop], Or.inr (by omega), hY, ?_, ?_⟩
 ·rw [hv, h.v, List.take_add, Dc.num_append, List.length_take, List.length_drop, Nat.min_eq_left (by omega)]
  rcases h.part with ⟨rfl, _⟩ | hp
  ·simp [Dc.num]
  ·have : n = 19 := by omega
   subst this
   simp
 ·have := h.len
  rcases h.part with ⟨rfl, rfl⟩ | hp
  ·simp at hl
   omega
  ·omega

set_option maxHeartbeats 800000 in
set_option maxRecDepth 100000 in
/-- whole.Parse of digits. -/
theorem Parse_any (s : ByteArray) (w : World) (hs : s.size ≤ 1000000) (hd : ∀ c ∈ s.data.toList, Dc.Dg c) :
  Calls Tryz.prog 41 #[.string s] w fun e w' => ∃ r zs, e = .returned (.agg #[r]) ∧ Rd w' r zs ∧ Nm zs ∧ val zs = (Dc.num s.data.toList : Int) ∧ zs.length ≤ s.size / 19 + 1 ∧ Below w.heap.size w w' := by
 obtain ⟨l, hl⟩ : ∃ l, s.data.toList = l := ⟨_, rfl⟩
 have HL : Hid (s.data.toList = l) := hl
 have hls : l.length = s.size := by rw [← hl, Array.length_toList]; rfl
 rw [hl] at hd ⊢
 have HD : Hid (∀ c ∈ l, Dc.Dg c) := hd
 clear hd hl
 have K := Bx.new w (.slice none 0 0) 42
 have u1 : ((s.size : Int)).tdiv 19 = (s.size : Int) / 19 := Int.tdiv_eq_ediv_of_nonneg (by omega)
 obtain ⟨i, hi, hz0, hz1, hz2⟩ := infoW
 go_enter Tryz.func41, Tryz.ntmps41
 go_wp2_with (first
  | (at_make; refine wpList_make_own _ rfl _ _ 40 rfl (w.heap.size + 1) 26 i (.int .u64 0) 1 Tryz.underlying40 hi hz0 hz1 .i64 .i64 _ (s.size / 19 + 1) rfl rfl (by omega) (by rw [hz2]; omega) (by unfold maxLen; omega) (by simp) ?_; intro w1 own1 gr1; simp only [World.size_alloc] at own1)
  | fail)
 have hb1 : Below (w.heap.size + 1) (w.alloc (.cells #[.slice none 0 0] 42)) w1 := ⟨gr1.os, gr1.tape, gr1.output, gr1.size, fun k hk => gr1.block k (by simp; omega) (by simp)⟩
 go_loopw [0, 3] (fun d v wr => ∃ (c : Nat) (D : ByteArray) (X : List Int) (g cap : Nat), d = .string D ∧ v = .slice (some ⟨g, 0, none⟩) X.length cap ∧ Ps l c D X ∧ wr.ownsRow (w.heap.size + 1) 26 1 (.slice (some ⟨g, 0, none⟩) X.length cap) X.length (X.map (Value.int .u64)) ∧ Below (w.heap.size + 1) (w.alloc (.cells #[.slice none 0 0] 42)) wr) (fun d _ _ => strLen d)
 case atStart => exact ⟨0, s, [], _, _, rfl, rfl, ⟨Nat.zero_le _, by rw [HL.out]; rfl, Or.inl ⟨rfl, rfl⟩, Wd.nil, by simp [val, Dc.num], by simp⟩, own1, hb1⟩
 case round =>
  obtain ⟨c, D, X, g, cap, rfl, rfl, P, own, hb⟩ := hrel
  have HP : Hid (Ps l c D X) := P
  have hsz := P.size
  have hXl := P.len
  have hcl := P.le
  clear P
  have gl := ownw_lt own
  have gc := ownw_cap own
  have hbs := hb.size
  have hbs' : w.heap.size + 1 ≤ wr.heap.size := by simpa using hbs
  by_cases hr : 0 < D.size
  ·obtain ⟨n, hn⟩ : ∃ n, (D.size - 1) % 19 + 1 = n := ⟨_, rfl⟩
   have n1 : 1 ≤ n := by omega
   have n2 : n ≤ 19 := by omega
   have n3 : n ≤ D.size := by omega
   have v1 : ((D.size : Int) - 1).tmod 19 = ((D.size : Int) - 1) % 19 := Int.tmod_eq_emod_of_nonneg (by omega)
   have v2 : ((D.size : Int) - 1) % 19 + 1 = (n : Int) := by omega
   have n3' : (n : Int) ≤ (D.size : Int) := by omega
   obtain ⟨G, hG⟩ : ∃ G, Dc.num ((l.drop c).take n) = G := ⟨_, rfl⟩
   have PU := fun W => Tryz.strconv_ParseUint_10_at64_ok (D.extract 0 n) (by rw [ByteArray.size_extract]; omega) G (by
    rw [ex_to, HP.out.rest, ← hG]
    refine Dc.parse19B _ (fun c hc => HD.out c (List.mem_of_mem_drop (List.mem_of_mem_take hc))) ?_ (by rw [List.length_take]; omega)
    intro e
    have := congrArg List.length e
    rw [List.length_take, List.length_drop] at this
    simp at this
    omega) W
   have G1 : G < 18446744073709551616 := by
    have := Dc.num_lt ((l.drop c).take n) (fun c hc => HD.out c (List.mem_of_mem_drop (List.mem_of_mem_take hc)))
    rw [hG, List.length_take, List.length_drop, Nat.min_eq_left (by omega)] at this
    have p : 10 ^ n ≤ 10 ^ 19 := Nat.pow_le_pow_right (by decide) n2
    have e19 : (10 : Nat) ^ 19 = 10000000000000000000 := by decide
    omega
   have HG : Hid (Dc.num ((l.drop c).take n) = G) := hG
   have HN : Hid (n = (D.size - 1) % 19 + 1) := hn.symm
   have HG1 : Hid (G < 18446744073709551616) := G1
   have HSZ : Hid (D.size = l.length - c) := hsz
   have hDs : D.size ≤ s.size := by omega
   clear hG hn G1 hsz
   go_wp2_with (go_at_call 79; go_must ((with_reducible refine (PU _).mono ?_)); rintro e w2 ⟨rfl, hw2⟩; have b2 : Below wr.heap.size wr w2 := (by rcases hw2 with rfl | rfl; exact Below.refl _ _; exact Lib.bytesWorld_below _ _ _); clear hw2)
   have own2 := own_growb own b2
   have hb2 := hb.trans (b2.mono hbs')
   have gl2 := ownw_lt own2
   go_loopw [7, 36] (fun cy i wr2 => ∃ (k : Nat) (C : Int) (Z : List Int), k ≤ X.length ∧ i = .int .i64 k ∧ cy = .int .u64 C ∧ 0 ≤ C ∧ C ≤ 18446744073709551615 ∧ Hid (Part Z X k ∧ val (Z.take k) + pw k * C = val (X.take k) * 10000000000000000000 + (G : Int)) ∧ wr2.ownsRow (w.heap.size + 1) 26 1 (.slice (some ⟨g, 0, none⟩) X.length cap) X.length (Z.map (Value.int .u64)) ∧ Below (w.heap.size + 1) (w.alloc (.cells #[.slice none 0 0] 42)) wr2) (fun _ i _ => X.length - (intOf i).toNat)
   case atStart => exact ⟨0, (G : Int), X, Nat.zero_le _, rfl, rfl, by omega, by have := HG1.out; omega, ⟨Part.refl HP.out.wd 0, by simp [val, pw]⟩, own2, hb2⟩
   case round =>
    rename World => wr2
    obtain ⟨k, C, Z, hk, rfl, rfl, c0, c1, hz, own3, hb3⟩ := hrel
    have hZl : Z.length = X.length := hz.out.1.len
    by_cases hlt : k < X.length
    ·have ec : wr2.cell? ⟨g, k, none⟩ = some (.int .u64 (nth X k)) := by
      rw [← hz.out.1.nth]
      have o := own3
      rw [← hZl] at o
      exact ownw_at o k (by omega)
     have ef : wr2.frozen? ⟨g, k, none⟩ = false := own3.frozenAt k
     have gl3 := ownw_lt own3
     have bx := nth_bd HP.out.wd k
     obtain ⟨x, hx⟩ : ∃ x, nth X k = x := ⟨_, rfl⟩
     have HX : Hid (nth X k = x) := hx
     rw [hx] at ec bx
     have M := fun W => mulAdd_any x 10000000000000000000 C W bx.1 bx.2 (by decide) (by decide) c0 (by omega)
     have hx63 : 0 ≤ x := bx.1
     have HB3 : Hid (Below (w.heap.size + 1) (w.alloc (.cells #[.slice none 0 0] 42)) wr2) := hb3
     clear hx bx hb3
     go_wp2_with (go_at_call 80; (with_reducible refine (M _).mono ?_); rintro e w3 ⟨lo, hi, rfl, l0, l1, i0, i1, he, hw3⟩; have hw4 := hw3.symm; subst hw4; have HE : Hid (lo + 18446744073709551616 * hi = x * 10000000000000000000 + C) := he; have i2 : hi ≤ 18446744073709551615 := (by omega); have HL1 : Hid (lo < 18446744073709551616) := l1; clear he hw3 l1 i1)
     go_roundw
     case rel =>
      have m := mul_more hz.out.1 hlt hz.out.2 l0 HL1.out (by rw [HX.out]; exact HE.out)
      refine ⟨k + 1, hi, Z.set k lo, by omega, by go_num, rfl, i0, i2, m, ?_, HB3.out.setCell (p := ⟨g, k, none⟩) gl3.1 _⟩
      have o := own3
      rw [← hZl] at o ⊢
      exact ownw_set o k lo
     case measure => simp [intOf]; omega
    ·obtain rfl : k = X.length := by omega
     have V : Hid (Wd Z ∧ val Z + pw X.length * C = val X * 10000000000000000000 + (G : Int)) := by
      have := hz.out.2
      rw [List.take_length, List.take_of_length_le (by omega)] at this
      exact ⟨hz.out.1.wd, this⟩
     clear hz
     rw [← hZl] at own3 V ⊢
     have HZ : Hid (Z.length = X.length) := hZl
     have hZ2 : Z.length ≤ 1000000 := by omega
     clear hZl hXl gc gl own own2 gl2
     have gl3 := ownw_lt own3
     have hb3s : w.heap.size + 1 ≤ wr2.heap.size := by simpa using hb3.size
     by_cases hC : 0 < C
     ·go_wp2_with (first
       | (at_builtin; (refine wpList_pushw rfl _ _ rfl g cap Z rfl (w.heap.size + 1) (own_growb own3 ((Below.refl _ _).alloc (Nat.le_refl _) _)) (by omega) _ _ C rfl (by simp) (by simp; omega) ?_; intro g' cap' w4 own4 b4; have hb4 := (hb3.alloc (by simpa using hb3s) _).trans b4))
       | fail)
      go_roundw
      case rel =>
       refine ⟨c + n, D.extract n D.size, Z ++ [C], g', cap', rfl, by simp, HP.out.next hr HN.out (V.out.1.append (Wd.cons c0 (by omega) Wd.nil)) ?_ (by rw [List.length_append, HZ.out]; simp), own4, hb4⟩
       rw [val_append, HG.out, ← V.out.2, HZ.out]
       simp [val]
      case measure =>
       have : (D.extract n D.size).size = D.size - n := by rw [ByteArray.size_extract]; omega
       simp only [strLen, this]
       omega
     ·obtain rfl : C = 0 := by omega
      go_wp2
      go_roundw
      case rel =>
       refine ⟨c + n, D.extract n D.size, Z, g, cap, rfl, rfl, HP.out.next hr HN.out V.out.1 ?_ (by rw [HZ.out]; omega), own3, hb3⟩
       rw [HG.out, ← V.out.2]
       simp
      case measure =>
       have : (D.extract n D.size).size = D.size - n := by rw [ByteArray.size_extract]; omega
       simp only [strLen, this]
       omega
  ·have hc : Hid (c = l.length) := by show _ = _; omega
   have hv : Hid (val X = (Dc.num l : Int)) := by
    show _ = _
    rw [HP.out.v, hc.out, List.take_length]
   have hxl : Hid (X.length ≤ s.size / 19 + 1) := by show _ ≤ _; omega
   have hwd : Hid (Wd X) := HP.out.wd
   have hcells : Hid (0 < X.length → ∃ b o, (some (⟨g, 0, none⟩ : Addr)) = some ⟨b, o, none⟩ ∧ Cells wr b o X) := fun _ => ⟨g, 0, rfl, fun i hi => by rw [Nat.zero_add]; exact ownw_at own i hi⟩
   have K2 : Bx wr w.heap.size (.slice none 0 0) := by
    have l0 : w.heap.size < w.heap.size + 1 := by omega
    exact ⟨(hb.cell (p := ⟨w.heap.size, 0, none⟩) l0).trans K.1, (hb.frozen (p := ⟨w.heap.size, 0, none⟩) l0).trans K.2, by obtain ⟨t, e⟩ := K.3; exact ⟨t, (hb.block _ l0).trans e⟩⟩
   have hx0 : D.size = 0 := by omega
   have HD0 : Hid (D.size = 0) := hx0
   have hr' : ¬ (0 : Int) < (D.size : Int) := by omega
   have prw : Below w.heap.size w wr := below_alloc1 hb
   clear hsz hcl hXl hx0
   go_wp2_with (go_at_call 50; (refine (trim_rd _ _ _ X _ rfl hwd.out (by omega) (by omega) hcells.out).mono ?_); rintro e w5 ⟨n5, zs, rfl, hzs, hrd, hnm, hvz, b5⟩; replace K2 := K2.below b5; have k0 := K2.1; have kf := K2.2)
   have v1 : (w5.setCell ⟨w.heap.size, 0, none⟩ (.slice (some ⟨g, 0, none⟩) n5 cap)).cell? ⟨w.heap.size, 0, none⟩ = some (.slice (some ⟨g, 0, none⟩) n5 cap) := World.cell?_setCell_same _ _ _ k0
   refine bodyPost_ret (v := .agg #[.slice (some ⟨g, 0, none⟩) n5 cap]) (by simp [results, Tryz.results41, go_sem, v1]) rfl ⟨_, zs, rfl, hrd.put (by intro b o l c e; simp at e; omega), hnm, by rw [hvz, hv.out], ?_, below_put (prw.trans (b5.mono prw.size)) (Nat.le_refl _) _⟩
   have := hxl.out
   rw [hzs, List.length_take]
   omega
end Go.Proofs.YtapdhadpdbmkcaaGreatDoor
