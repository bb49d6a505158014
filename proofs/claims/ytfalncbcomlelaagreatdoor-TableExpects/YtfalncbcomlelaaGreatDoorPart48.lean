import Derived.Test.YtfalncbcomlelaaGreatDoorPart45
import Derived.Test.YtfalncbcomlelaaGreatDoorPart47
import Derived.Test.YtfalncbcomlelaaGreatDoorPart08
import Derived.Test.YtfalncbcomlelaaGreatDoorPart14
import Derived.Test.YtfalncbcomlelaaGreatDoorPart16
import Derived.Test.YtfalncbcomlelaaGreatDoorPart17
import Derived.Test.YtfalncbcomlelaaGreatDoorPart35
import Derived.Test.YtfalncbcomlelaaGreatDoorPart36
import Derived.Test.YtfalncbcomlelaaGreatDoorPart37
import Derived.Test.YtfalncbcomlelaaGreatDoorPart38
import Derived.Test.YtfalncbcomlelaaGreatDoorPart39

namespace Go.Proofs.YtfalncbcomlelaaGreatDoor.Ta
open Go.RowKit
open Go.Proofs.YtfalncbcomlelaaGreatDoor.Mo (Qf qf_of qput Rb al sv al_bd)

set_option maxRecDepth 100000 in
set_option maxHeartbeats 3200000 in
theorem RExpect_e (s : ByteArray) (f : Int) (vr vs : Value) (en ys fr yr : Int) (c : Int) (w : World) (hc : (c != 0) = true) (hc2 : (c == 0) = false) (C : ∀ x, Below w.heap.size w x → Calls Tryz.prog 55 #[.agg #[.string s, .int .i64 f, vr, vs], .agg #[.int .i64 en, .int .i64 ys], .int .i64 fr] x fun e w' => e = .returned (.int .i64 c) ∧ Below x.heap.size x w') : Calls Tryz.prog 20 #[.agg #[.string s, .int .i64 f, vr, vs], .agg #[.int .i64 en, .int .i64 ys], .int .i64 fr, .int .i64 yr] w fun e w' => e = .returned (.tuple #[.agg #[.string ⟨#[]⟩, .string ⟨#[]⟩], .int .i64 c]) ∧ Below w.heap.size w w' := by
  have KT := ((Blk.new w #[.string s, .int .i64 f, vr, vs] 46).alloc (.cells #[.int .i64 en, .int .i64 ys] 48)).alloc (.cells #[.string ⟨#[]⟩, .string ⟨#[]⟩] 23)
  have KL := (Blk.new (w.alloc (.cells #[.string s, .int .i64 f, vr, vs] 46)) #[.int .i64 en, .int .i64 ys] 48).alloc (.cells #[.string ⟨#[]⟩, .string ⟨#[]⟩] 23)
  have pr : Below w.heap.size w (((w.alloc (.cells #[.string s, .int .i64 f, vr, vs] 46)).alloc (.cells #[.int .i64 en, .int .i64 ys] 48)).alloc (.cells #[.string ⟨#[]⟩, .string ⟨#[]⟩] 23)) := (((Below.refl _ _).alloc (Nat.le_refl _) _).alloc (by simp) _).alloc (by simp; omega) _
  have KR := Blk.new ((w.alloc (.cells #[.string s, .int .i64 f, vr, vs] 46)).alloc (.cells #[.int .i64 en, .int .i64 ys] 48)) #[.string ⟨#[]⟩, .string ⟨#[]⟩] 23
  simp only [World.size_alloc] at KL KR
  go_enter Tryz.func20, Tryz.ntmps20
  go_wp2_with (first
    | (go_at_call 55; (refine (C _ pr).mono ?_); (rintro e w1 ⟨rfl, b1⟩); (have KT1 := KT.below b1 KT.lt); (have KL1 := KL.below b1 KL.lt); (have KR1 := KR.below b1 KR.lt); (have x10 := KT1.at 0); (have x11 := KT1.at 1); (have x12 := KT1.at 2); (have x13 := KT1.at 3); (have x14 := KL1.at 0); (have x15 := KL1.at 1); (simp at x10 x11 x12 x13 x14 x15); (have z0 := KR1.at 0); (have z1 := KR1.at 1); (have y0 := KR1.free 0); (have y1 := KR1.free 1); (simp at z0 z1); (have K1 := KR1))
    | fail)
  have KE := bput (bput K1 0 (.string ⟨#[]⟩)) 1 (.string ⟨#[]⟩)
  have bE := ((Mo.bel' pr b1).setCell (p := ⟨w.heap.size + 1 + 1, 0, none⟩) (show w.heap.size ≤ w.heap.size + 1 + 1 by omega) (.string ⟨#[]⟩)).setCell (p := ⟨w.heap.size + 1 + 1, 1, none⟩) (show w.heap.size ≤ w.heap.size + 1 + 1 by omega) (.string ⟨#[]⟩)
  have q0 := KE.at 0
  have q1 := KE.at 1
  simp at q0 q1
  exact bodyPost_ret (v := .tuple #[.agg #[.string ⟨#[]⟩, .string ⟨#[]⟩], .int .i64 c]) (by simp [results, Tryz.results20, go_sem, q0, q1]) rfl ⟨rfl, bE⟩
set_option maxRecDepth 100000 in
set_option maxHeartbeats 3200000 in
theorem RExpect_r1 (s : ByteArray) (f : Int) (vr vs : Value) (en ys fr yr : Int) (w : World) (g1 : yr < 0) (C : ∀ x, Below w.heap.size w x → Calls Tryz.prog 55 #[.agg #[.string s, .int .i64 f, vr, vs], .agg #[.int .i64 en, .int .i64 ys], .int .i64 fr] x fun e w' => e = .returned (.int .i64 0) ∧ Below x.heap.size x w') : Calls Tryz.prog 20 #[.agg #[.string s, .int .i64 f, vr, vs], .agg #[.int .i64 en, .int .i64 ys], .int .i64 fr, .int .i64 yr] w fun e w' => e = .returned (.tuple #[.agg #[.string ⟨#[]⟩, .string ⟨#[]⟩], .int .i64 1]) ∧ Below w.heap.size w w' := by
  have KT := ((Blk.new w #[.string s, .int .i64 f, vr, vs] 46).alloc (.cells #[.int .i64 en, .int .i64 ys] 48)).alloc (.cells #[.string ⟨#[]⟩, .string ⟨#[]⟩] 23)
  have KL := (Blk.new (w.alloc (.cells #[.string s, .int .i64 f, vr, vs] 46)) #[.int .i64 en, .int .i64 ys] 48).alloc (.cells #[.string ⟨#[]⟩, .string ⟨#[]⟩] 23)
  have pr : Below w.heap.size w (((w.alloc (.cells #[.string s, .int .i64 f, vr, vs] 46)).alloc (.cells #[.int .i64 en, .int .i64 ys] 48)).alloc (.cells #[.string ⟨#[]⟩, .string ⟨#[]⟩] 23)) := (((Below.refl _ _).alloc (Nat.le_refl _) _).alloc (by simp) _).alloc (by simp; omega) _
  have KR := Blk.new ((w.alloc (.cells #[.string s, .int .i64 f, vr, vs] 46)).alloc (.cells #[.int .i64 en, .int .i64 ys] 48)) #[.string ⟨#[]⟩, .string ⟨#[]⟩] 23
  simp only [World.size_alloc] at KL KR
  go_enter Tryz.func20, Tryz.ntmps20
  go_wp2_with (first
    | (go_at_call 55; (refine (C _ pr).mono ?_); (rintro e w1 ⟨rfl, b1⟩); (have KT1 := KT.below b1 KT.lt); (have KL1 := KL.below b1 KL.lt); (have KR1 := KR.below b1 KR.lt); (have x10 := KT1.at 0); (have x11 := KT1.at 1); (have x12 := KT1.at 2); (have x13 := KT1.at 3); (have x14 := KL1.at 0); (have x15 := KL1.at 1); (simp at x10 x11 x12 x13 x14 x15); (have z0 := KR1.at 0); (have z1 := KR1.at 1); (have y0 := KR1.free 0); (have y1 := KR1.free 1); (simp at z0 z1); (have K1 := KR1))
    | fail)
  have KE := bput (bput K1 0 (.string ⟨#[]⟩)) 1 (.string ⟨#[]⟩)
  have bE := ((Mo.bel' pr b1).setCell (p := ⟨w.heap.size + 1 + 1, 0, none⟩) (show w.heap.size ≤ w.heap.size + 1 + 1 by omega) (.string ⟨#[]⟩)).setCell (p := ⟨w.heap.size + 1 + 1, 1, none⟩) (show w.heap.size ≤ w.heap.size + 1 + 1 by omega) (.string ⟨#[]⟩)
  have q0 := KE.at 0
  have q1 := KE.at 1
  simp at q0 q1
  exact bodyPost_ret (v := .tuple #[.agg #[.string ⟨#[]⟩, .string ⟨#[]⟩], .int .i64 1]) (by simp [results, Tryz.results20, go_sem, q0, q1]) rfl ⟨rfl, bE⟩
set_option maxRecDepth 100000 in
set_option maxHeartbeats 3200000 in
theorem RExpect_r2 (s : ByteArray) (f : Int) (vr vs : Value) (en ys fr yr : Int) (w : World) (g1 : ¬ yr < 0) (g2 : yr > 130) (C : ∀ x, Below w.heap.size w x → Calls Tryz.prog 55 #[.agg #[.string s, .int .i64 f, vr, vs], .agg #[.int .i64 en, .int .i64 ys], .int .i64 fr] x fun e w' => e = .returned (.int .i64 0) ∧ Below x.heap.size x w') : Calls Tryz.prog 20 #[.agg #[.string s, .int .i64 f, vr, vs], .agg #[.int .i64 en, .int .i64 ys], .int .i64 fr, .int .i64 yr] w fun e w' => e = .returned (.tuple #[.agg #[.string ⟨#[]⟩, .string ⟨#[]⟩], .int .i64 1]) ∧ Below w.heap.size w w' := by
  have KT := ((Blk.new w #[.string s, .int .i64 f, vr, vs] 46).alloc (.cells #[.int .i64 en, .int .i64 ys] 48)).alloc (.cells #[.string ⟨#[]⟩, .string ⟨#[]⟩] 23)
  have KL := (Blk.new (w.alloc (.cells #[.string s, .int .i64 f, vr, vs] 46)) #[.int .i64 en, .int .i64 ys] 48).alloc (.cells #[.string ⟨#[]⟩, .string ⟨#[]⟩] 23)
  have pr : Below w.heap.size w (((w.alloc (.cells #[.string s, .int .i64 f, vr, vs] 46)).alloc (.cells #[.int .i64 en, .int .i64 ys] 48)).alloc (.cells #[.string ⟨#[]⟩, .string ⟨#[]⟩] 23)) := (((Below.refl _ _).alloc (Nat.le_refl _) _).alloc (by simp) _).alloc (by simp; omega) _
  have KR := Blk.new ((w.alloc (.cells #[.string s, .int .i64 f, vr, vs] 46)).alloc (.cells #[.int .i64 en, .int .i64 ys] 48)) #[.string ⟨#[]⟩, .string ⟨#[]⟩] 23
  simp only [World.size_alloc] at KL KR
  go_enter Tryz.func20, Tryz.ntmps20
  go_wp2_with (first
    | (go_at_call 55; (refine (C _ pr).mono ?_); (rintro e w1 ⟨rfl, b1⟩); (have KT1 := KT.below b1 KT.lt); (have KL1 := KL.below b1 KL.lt); (have KR1 := KR.below b1 KR.lt); (have x10 := KT1.at 0); (have x11 := KT1.at 1); (have x12 := KT1.at 2); (have x13 := KT1.at 3); (have x14 := KL1.at 0); (have x15 := KL1.at 1); (simp at x10 x11 x12 x13 x14 x15); (have z0 := KR1.at 0); (have z1 := KR1.at 1); (have y0 := KR1.free 0); (have y1 := KR1.free 1); (simp at z0 z1); (have K1 := KR1))
    | fail)
  have KE := bput (bput K1 0 (.string ⟨#[]⟩)) 1 (.string ⟨#[]⟩)
  have bE := ((Mo.bel' pr b1).setCell (p := ⟨w.heap.size + 1 + 1, 0, none⟩) (show w.heap.size ≤ w.heap.size + 1 + 1 by omega) (.string ⟨#[]⟩)).setCell (p := ⟨w.heap.size + 1 + 1, 1, none⟩) (show w.heap.size ≤ w.heap.size + 1 + 1 by omega) (.string ⟨#[]⟩)
  have q0 := KE.at 0
  have q1 := KE.at 1
  simp at q0 q1
  exact bodyPost_ret (v := .tuple #[.agg #[.string ⟨#[]⟩, .string ⟨#[]⟩], .int .i64 1]) (by simp [results, Tryz.results20, go_sem, q0, q1]) rfl ⟨rfl, bE⟩
set_option maxRecDepth 100000 in
set_option maxHeartbeats 3200000 in
theorem RExpect_k (s : ByteArray) (f : Int) (vr vs : Value) (en ys : Int) (fr yr N m mx : Nat) (q : Nat → Int) (u t : ByteArray) (er' : Int) (w : World) (hfr : fr ≤ 130) (hyr : yr ≤ 130) (hN : N ≤ 131) (hm : min (fr + yr) N = m) (hmx : max fr m = mx) (hq : ∀ k, k < N → 0 ≤ q k ∧ q k ≤ 10000000) (C : ∀ x, Below w.heap.size w x → Calls Tryz.prog 55 #[.agg #[.string s, .int .i64 f, vr, vs], .agg #[.int .i64 en, .int .i64 ys], .int .i64 (fr : Int)] x fun e w' => e = .returned (.int .i64 0) ∧ Below x.heap.size x w') (LE : ∀ x, Below w.heap.size w x → Calls Tryz.prog 57 #[.agg #[.string s, .int .i64 f, vr, vs], .agg #[.int .i64 en, .int .i64 ys]] x fun e w' => e = .returned (.int .i64 (N : Int)) ∧ Below x.heap.size x w') (SC : ∀ x (n : Nat), n ≤ N → Below w.heap.size w x → Calls Tryz.prog 58 #[.agg #[.string s, .int .i64 f, vr, vs], .agg #[.int .i64 en, .int .i64 ys], .int .i64 (n : Int)] x (Qf (sv q n) x))
    (RR : ∀ x v, L.IsQ x v (er q fr mx) → Calls Tryz.prog 29 #[v] x fun e w' => e = .returned (.tuple #[.agg #[.string u, .string t], .int .i64 er']) ∧ Below x.heap.size x w') : Calls Tryz.prog 20 #[.agg #[.string s, .int .i64 f, vr, vs], .agg #[.int .i64 en, .int .i64 ys], .int .i64 (fr : Int), .int .i64 (yr : Int)] w fun e w' => e = .returned (.tuple #[.agg #[.string u, .string t], .int .i64 er']) ∧ Below w.heap.size w w' := by
  have KT := ((Blk.new w #[.string s, .int .i64 f, vr, vs] 46).alloc (.cells #[.int .i64 en, .int .i64 ys] 48)).alloc (.cells #[.string ⟨#[]⟩, .string ⟨#[]⟩] 23)
  have KL := (Blk.new (w.alloc (.cells #[.string s, .int .i64 f, vr, vs] 46)) #[.int .i64 en, .int .i64 ys] 48).alloc (.cells #[.string ⟨#[]⟩, .string ⟨#[]⟩] 23)
  have pr : Below w.heap.size w (((w.alloc (.cells #[.string s, .int .i64 f, vr, vs] 46)).alloc (.cells #[.int .i64 en, .int .i64 ys] 48)).alloc (.cells #[.string ⟨#[]⟩, .string ⟨#[]⟩] 23)) := (((Below.refl _ _).alloc (Nat.le_refl _) _).alloc (by simp) _).alloc (by simp; omega) _
  have KR := Blk.new ((w.alloc (.cells #[.string s, .int .i64 f, vr, vs] 46)).alloc (.cells #[.int .i64 en, .int .i64 ys] 48)) #[.string ⟨#[]⟩, .string ⟨#[]⟩] 23
  simp only [World.size_alloc] at KL KR
  have g1 : ¬ (yr : Int) < 0 := by omega
  have g2 : ¬ (yr : Int) > 130 := by omega
  have O := fun x => qf_of (L.Of_q 0 x (by decide) (by decide))
  have w1 : IntKind.i64.wrap ((fr : Int) + 1) = ((fr + 1 : Nat) : Int) := by rw [show (fr : Int) + 1 = ((fr + 1 : Nat) : Int) by omega]; exact Mo.wrapI _ (by omega) (by omega)
  obtain ⟨Z, hZ⟩ : ∃ Z : Nat, fr + yr = Z := ⟨_, rfl⟩
  have w2 : IntKind.i64.wrap ((fr : Int) + (yr : Int)) = (Z : Int) := by rw [show (fr : Int) + (yr : Int) = (Z : Int) by omega]; exact Mo.wrapI _ (by omega) (by omega)
  have HS : Hid (fr ≤ 130 ∧ N ≤ 131 ∧ min Z N = m ∧ max fr m = mx ∧ Z ≤ 260) := ⟨hfr, hN, by rw [← hZ]; exact hm, hmx, by omega⟩
  clear hm hmx hZ hfr hyr
  go_enter Tryz.func20, Tryz.ntmps20
  go_wp2_with (first
    | (go_at_call 55; (refine (C _ pr).mono ?_); (rintro e w1 ⟨rfl, b1⟩); (have p1 := Mo.bel' pr b1); (have KT1 := KT.below b1 KT.lt); (have KL1 := KL.below b1 KL.lt); (have KR1 := KR.below b1 KR.lt); (have x10 := KT1.at 0); (have x11 := KT1.at 1); (have x12 := KT1.at 2); (have x13 := KT1.at 3); (have x14 := KL1.at 0); (have x15 := KL1.at 1); (simp at x10 x11 x12 x13 x14 x15))
    | (go_at_call 56; (refine (O _).mono ?_); (rintro e w3 ⟨g3, a3, l3, c3, a3', l3', c3', rfl, t3, b3⟩); (have al := (Below.refl w3.heap.size w3).alloc (Nat.le_refl _) (.cells #[.bool g3, .slice a3 l3 c3, .slice a3' l3' c3'] 66)); (have bb := Mo.bel' b3 al); (have R := Rb.new w3 (.bool g3) (.slice a3 l3 c3) (.slice a3' l3' c3') 66); (have p3 := Mo.bel' p1 bb); (have KT3 := KT1.below bb KT1.lt); (have KL3 := KL1.below bb KL1.lt); (have KR3 := KR1.below bb KR1.lt); (have x30 := KT3.at 0); (have x31 := KT3.at 1); (have x32 := KT3.at 2); (have x33 := KT3.at 3); (have x34 := KL3.at 0); (have x35 := KL3.at 1); (simp at x30 x31 x32 x33 x34 x35))
    | fail)
  have t3 := t3.grow al
  have L11 : Hid (w.heap.size + 1 + 1 < w3.heap.size) := (KR1.below b3 KR1.lt).lt
  generalize w3.alloc (.cells #[.bool g3, .slice a3 l3 c3, .slice a3' l3' c3'] 66) = W3 at *
  generalize w3.heap.size = n11 at *
  clear KT KL KR KT1 KL1 KR1 b1 pr p1 b3 al bb C O x10 x11 x12 x13 x14 x15 x30 x31 x32 x33 x34 x35 g1 g2
  go_loopw [12] (fun i wr => ∃ (k : Nat) (g3 : Bool) (a3 : Option Addr) (l3 c3 : Nat) (a3' : Option Addr) (l3' c3' : Nat), i = .int .i64 ((k + 1 : Nat) : Int) ∧ fr ≤ k ∧ k ≤ mx ∧ Rb wr n11 (.bool g3) (.slice a3 l3 c3) (.slice a3' l3' c3') ∧ L.IsQ wr (.agg #[.bool g3, .slice a3 l3 c3, .slice a3' l3' c3']) (er q fr k) ∧ Blk wr w.heap.size #[.string s, .int .i64 f, vr, vs] 46 ∧ Blk wr (w.heap.size + 1) #[.int .i64 en, .int .i64 ys] 48 ∧ Blk wr (w.heap.size + 1 + 1) #[.string ⟨#[]⟩, .string ⟨#[]⟩] 23 ∧ Below w.heap.size w wr) (fun i _ => mx + 1 - (RowKit.intOf i).toNat)
  case atStart => exact ⟨fr, g3, a3, l3, c3, a3', l3', c3', rfl, Nat.le_refl _, by have := HS.out; omega, R, by rw [er_0 (Nat.le_refl _)]; exact t3, KT3, KL3, KR3, p3⟩
  case round =>
    clear R t3 KT3 KL3 KR3 p3
    obtain ⟨k, g3, a3, l3, c3, a3', l3', c3', rfl, hf, hk, R, tq, KT, KL, KR, p⟩ := hrel
    obtain ⟨h1, h2, h3, h4, h5⟩ := HS.out
    have x0 := KT.at 0
    have x1 := KT.at 1
    have x2 := KT.at 2
    have x3 := KT.at 3
    have x4 := KL.at 0
    have x5 := KL.at 1
    have r0 := R.c0
    have r1 := R.c1
    have r2 := R.c2
    simp at x0 x1 x2 x3 x4 x5
    have L11 := L11.out
    obtain ⟨j, hj⟩ : ∃ j, k + 1 = j := ⟨_, rfl⟩
    rw [hj]
    by_cases ca : j ≤ Z
    · have ca' : (j : Int) ≤ (Z : Int) := by omega
      by_cases cb : j ≤ N
      · have cb' : (j : Int) ≤ (N : Int) := by omega
        have y9 : IntKind.i64.wrap ((j : Int) + 1) = ((j + 1 : Nat) : Int) := by rw [show (j : Int) + 1 = ((j + 1 : Nat) : Int) by omega]; exact Mo.wrapI _ (by omega) (by omega)
        have SJ := fun x b => SC x j cb b
        have kN : k ≤ N := by omega
        have AD := fun x v1 v2 (h : L.IsQ x v1 (er q fr k)) (h' : L.IsQ x v2 (sv q j)) => qf_of (L.QAdd_any v1 v2 _ _ 120 x h h' (Mo.Bd.qs (er_bd hq h2 kN) (by decide)) (Mo.Bd.qs (sv_bd hq cb h2) (by decide)) (by decide))
        have es : er q fr k + sv q j = er q fr j := by rw [← hj]; exact (er_succ hf).symm
        simp only [es] at AD
        have HK : Hid (fr ≤ j ∧ j ≤ mx ∧ k + 1 = j) := ⟨by omega, by omega, hj⟩
        have ne1 : n11 ≠ w.heap.size := by omega
        have ne2 : n11 ≠ w.heap.size + 1 := by omega
        have ne3 : n11 ≠ w.heap.size + 1 + 1 := by omega
        clear h1 h2 h3 h4 h5 hf hk hj ca cb hq SC RR kN es
        go_wp2_with (first
          | (go_at_call 57; (refine (LE _ p).mono ?_); (rintro e w8 ⟨rfl, b8⟩); (have p8 := Mo.bel' p b8); (have R8 := R.grow b8); (have q8 := tq.grow b8); (have KT8 := KT.below b8 KT.lt); (have KL8 := KL.below b8 KL.lt); (have KR8 := KR.below b8 KR.lt); (have x80 := KT8.at 0); (have x81 := KT8.at 1); (have x82 := KT8.at 2); (have x83 := KT8.at 3); (have x84 := KL8.at 0); (have x85 := KL8.at 1); (simp at x80 x81 x82 x83 x84 x85); (have t0 := R8.c0); (have t1 := R8.c1); (have t2 := R8.c2))
          | fail)
        clear x0 x1 x2 x3 x4 x5 r0 r1 r2
        go_region_with (first
          | (go_at_call 30; (have z := d9); (refine (AD _ _ _ (q8.grow d9) t9).mono ?_); (rintro e wa ⟨g4, a4, l4, c4, a4', l4', c4', rfl, t4, ba⟩); (have da := Mo.bel' d9 ba); (have Ra := R8.grow da); (have v0 := Ra.c0); (have v1 := Ra.c1); (have v2 := Ra.c2); (have f0 := Ra.f0); (have f1 := Ra.f1); (have f2 := Ra.f2))
          | (go_at_call 58; (refine (SJ _ (Mo.bel' p8 ((Below.refl _ _).drew))).mono ?_); (rintro e w9 ⟨g9, a9, l9, c9, a9', l9', c9', rfl, t9, b9⟩); (have d9 := Mo.undrew b9); (have R9 := R8.grow d9); (have u0 := R9.c0); (have u1 := R9.c1); (have u2 := R9.c2))
          | fail)
        all_goals
          have Rn := Ra.sets (.bool g4) (.slice a4 l4 c4) (.slice a4' l4' c4')
          have tn := qput (x := .bool g4) (y := .slice a4 l4 c4) (z := .slice a4' l4' c4') t4 Ra
          have KTn := bskip (bskip (bskip (KT8.below da KT8.lt) ne1 0 (.bool g4)) ne1 1 (.slice a4 l4 c4)) ne1 2 (.slice a4' l4' c4')
          have KLn := bskip (bskip (bskip (KL8.below da KL8.lt) ne2 0 (.bool g4)) ne2 1 (.slice a4 l4 c4)) ne2 2 (.slice a4' l4' c4')
          have KRn := bskip (bskip (bskip (KR8.below da KR8.lt) ne3 0 (.bool g4)) ne3 1 (.slice a4 l4 c4)) ne3 2 (.slice a4' l4' c4')
          have pn := Mo.bset3 (x := .bool g4) (y := .slice a4 l4 c4) (z := .slice a4' l4' c4') (Mo.bel' p8 da) (show w.heap.size ≤ n11 by omega)
          go_wp2_with fail
          go_roundw
          case rel => exact ⟨j, g4, a4, l4, c4, a4', l4', c4', by go_num, HK.out.1, HK.out.2.1, Rn, tn, KTn, KLn, KRn, pn⟩
          case measure => simp [RowKit.intOf]; have := HK.out; omega
      · have cb' : ¬ (j : Int) ≤ (N : Int) := by omega
        obtain rfl : k = mx := by omega
        clear h1 h2 h3 h4 h5 hf hk hj ca cb hq SC
        go_wp2_with (first
          | (go_at_call 57; (refine (LE _ p).mono ?_); (rintro e w8 ⟨rfl, b8⟩); (have p8 := Mo.bel' p b8); (have R8 := R.grow b8); (have q8 := tq.grow b8); (have KR8 := KR.below b8 KR.lt); (have t0 := R8.c0); (have t1 := R8.c1); (have t2 := R8.c2))
          | (go_at_call 29; (refine (RR _ _ q8).mono ?_); (rintro e w9 ⟨rfl, b9⟩); (have p9 := Mo.bel' p8 b9); (have K1 := KR8.below b9 KR8.lt); (have z0 := K1.at 0); (have z1 := K1.at 1); (have y0 := K1.free 0); (have y1 := K1.free 1); (simp at z0 z1))
          | fail)
        have KE := bput (bput K1 0 (.string u)) 1 (.string t)
        have bE := (p9.setCell (p := ⟨w.heap.size + 1 + 1, 0, none⟩) (show w.heap.size ≤ w.heap.size + 1 + 1 by omega) (.string u)).setCell (p := ⟨w.heap.size + 1 + 1, 1, none⟩) (show w.heap.size ≤ w.heap.size + 1 + 1 by omega) (.string t)
        have e0 := KE.at 0
        have e1 := KE.at 1
        simp at e0 e1
        exact bodyPost_ret (v := .tuple #[.agg #[.string u, .string t], .int .i64 er']) (by simp [results, Tryz.results20, go_sem, e0, e1]) rfl ⟨rfl, bE⟩
    · have ca' : ¬ (j : Int) ≤ (Z : Int) := by omega
      obtain rfl : k = mx := by omega
      have q8 := tq
      have p8 := p
      have KR8 := KR
      clear h1 h2 h3 h4 h5 hf hk hj ca hq SC
      go_wp2_with (first
        | (go_at_call 29; (refine (RR _ _ q8).mono ?_); (rintro e w9 ⟨rfl, b9⟩); (have p9 := Mo.bel' p8 b9); (have K1 := KR8.below b9 KR8.lt); (have z0 := K1.at 0); (have z1 := K1.at 1); (have y0 := K1.free 0); (have y1 := K1.free 1); (simp at z0 z1))
        | fail)
      have KE := bput (bput K1 0 (.string u)) 1 (.string t)
      have bE := (p9.setCell (p := ⟨w.heap.size + 1 + 1, 0, none⟩) (show w.heap.size ≤ w.heap.size + 1 + 1 by omega) (.string u)).setCell (p := ⟨w.heap.size + 1 + 1, 1, none⟩) (show w.heap.size ≤ w.heap.size + 1 + 1 by omega) (.string t)
      have e0 := KE.at 0
      have e1 := KE.at 1
      simp at e0 e1
      exact bodyPost_ret (v := .tuple #[.agg #[.string u, .string t], .int .i64 er']) (by simp [results, Tryz.results20, go_sem, e0, e1]) rfl ⟨rfl, bE⟩

set_option maxRecDepth 100000 in
set_option maxHeartbeats 3200000 in
theorem RProbable_e (s : ByteArray) (f : Int) (vr vs : Value) (en ys : Int) (c : Int) (w : World) (hc : (c != 0) = true) (C : ∀ x, Below w.heap.size w x → Calls Tryz.prog 55 #[.agg #[.string s, .int .i64 f, vr, vs], .agg #[.int .i64 en, .int .i64 ys], .int .i64 0] x fun e w' => e = .returned (.int .i64 c) ∧ Below x.heap.size x w') : Calls Tryz.prog 22 #[.agg #[.string s, .int .i64 f, vr, vs], .agg #[.int .i64 en, .int .i64 ys]] w fun e w' => e = .returned (.tuple #[.int .i64 0, .int .i64 c]) ∧ Below w.heap.size w w' := by
  have pr : Below w.heap.size w ((w.alloc (.cells #[.string s, .int .i64 f, vr, vs] 46)).alloc (.cells #[.int .i64 en, .int .i64 ys] 48)) := ((Below.refl _ _).alloc (Nat.le_refl _) _).alloc (by simp) _
  go_enter Tryz.func22, Tryz.ntmps22
  go_wp2_with (first
    | (go_at_call 55; (refine (C _ pr).mono ?_); (rintro e w1 ⟨rfl, b1⟩))
    | fail)
  go_ret2
  exact ⟨rfl, Mo.bel' pr b1⟩
set_option maxRecDepth 100000 in
set_option maxHeartbeats 3200000 in
theorem RProbable_k (s : ByteArray) (f : Int) (vr vs : Value) (en ys : Int) (N n : Nat) (q : Nat → Int) (w : World) (hN : N ≤ 131) (hn : n ≤ N) (hq : ∀ k, k < N → 0 ≤ q k ∧ q k ≤ 10000000) (h1 : ∀ k, k < n → (1 : Rat) / 2 < sv q k) (h2 : ¬ (1 : Rat) / 2 < sv q n) (C : ∀ x, Below w.heap.size w x → Calls Tryz.prog 55 #[.agg #[.string s, .int .i64 f, vr, vs], .agg #[.int .i64 en, .int .i64 ys], .int .i64 0] x fun e w' => e = .returned (.int .i64 0) ∧ Below x.heap.size x w') (SC : ∀ x (n : Nat), n ≤ N → Below w.heap.size w x → Calls Tryz.prog 58 #[.agg #[.string s, .int .i64 f, vr, vs], .agg #[.int .i64 en, .int .i64 ys], .int .i64 (n : Int)] x (Qf (sv q n) x)) : Calls Tryz.prog 22 #[.agg #[.string s, .int .i64 f, vr, vs], .agg #[.int .i64 en, .int .i64 ys]] w fun e w' => e = .returned (.tuple #[.int .i64 (n : Int), .int .i64 0]) ∧ Below w.heap.size w w' := by
  have pr : Below w.heap.size w ((w.alloc (.cells #[.string s, .int .i64 f, vr, vs] 46)).alloc (.cells #[.int .i64 en, .int .i64 ys] 48)) := ((Below.refl _ _).alloc (Nat.le_refl _) _).alloc (by simp) _
  have KT := (Blk.new w #[.string s, .int .i64 f, vr, vs] 46).alloc (.cells #[.int .i64 en, .int .i64 ys] 48)
  have KL := Blk.new (w.alloc (.cells #[.string s, .int .i64 f, vr, vs] 46)) #[.int .i64 en, .int .i64 ys] 48
  simp only [World.size_alloc] at KL
  have FR := fun x => qf_of (L.Frac_q 1 2 x (by decide) (by decide) (by decide) (by decide))
  simp only [show (((1 : Int) : Rat) / ((2 : Int) : Rat)) = (1 : Rat) / 2 by decide +kernel] at FR
  have qs2 : L.QS ((1 : Rat) / 2) 120 := Mo.Bd.qs (B := 10) (by unfold Ip.Bd; decide +kernel) (by decide)
  go_enter Tryz.func22, Tryz.ntmps22
  go_wp2_with (first
    | (go_at_call 55; (refine (C _ pr).mono ?_); (rintro e w1 ⟨rfl, b1⟩); (have p1 := Mo.bel' pr b1); (have KT1 := KT.below b1 KT.lt); (have KL1 := KL.below b1 KL.lt))
    | fail)
  clear KT KL b1 pr C
  go_loopw [7] (fun i wr => ∃ k : Nat, i = .int .i64 k ∧ k ≤ n ∧ Blk wr w.heap.size #[.string s, .int .i64 f, vr, vs] 46 ∧ Blk wr (w.heap.size + 1) #[.int .i64 en, .int .i64 ys] 48 ∧ Below w.heap.size w wr) (fun i _ => n - (RowKit.intOf i).toNat)
  case atStart => exact ⟨0, rfl, Nat.zero_le _, KT1, KL1, p1⟩
  case round =>
    clear KT1 KL1 p1
    obtain ⟨k, rfl, hk, KT, KL, p⟩ := hrel
    have x0 := KT.at 0
    have x1 := KT.at 1
    have x2 := KT.at 2
    have x3 := KT.at 3
    have x4 := KL.at 0
    have x5 := KL.at 1
    simp at x0 x1 x2 x3 x4 x5
    have SJ := fun x b => SC x k (by omega) b
    have CM := fun x v1 v2 (h : L.IsQ x v1 (sv q k)) (h' : L.IsQ x v2 ((1 : Rat) / 2)) => L.QCmp_any v1 v2 _ _ 120 x h h' (Mo.Bd.qs (sv_bd hq (show k ≤ N by omega) hN) (by decide)) qs2 (by decide)
    by_cases lt : k < n
    · have y9 : IntKind.i64.wrap ((k : Int) + 1) = ((k + 1 : Nat) : Int) := by rw [show (k : Int) + 1 = ((k + 1 : Nat) : Int) by omega]; exact Mo.wrapI _ (by omega) (by omega)
      have hh := h1 k lt
      have hh' : ¬ sv q k < (1 : Rat) / 2 := Rat.not_lt.2 (Rat.le_of_lt hh)
      simp only [show L.cmpR (sv q k) ((1 : Rat) / 2) = 1 by unfold L.cmpR; rw [if_neg hh', if_pos hh]] at CM
      have HK : Hid (k + 1 ≤ n) := lt
      clear hk hq hN hn h1 h2 hh hh' SC lt qs2
      go_wp2_with (first
        | (go_at_call 45; (refine (CM _ _ _ (t2.grow b3) t3).mono ?_); (rintro e w4 ⟨rfl, b4⟩); (have d4 := Mo.bel' (Mo.bel' b2 b3) b4))
        | (go_at_call 62; (refine (FR _).mono ?_); (rintro e w3 ⟨g3, a3, l3, c3, a3', l3', c3', rfl, t3, b3⟩))
        | (go_at_call 58; (refine (SJ _ p).mono ?_); (rintro e w2 ⟨g2, a2, l2, c2, a2', l2', c2', rfl, t2, b2⟩))
        | fail)
      go_roundw
      case rel => exact ⟨k + 1, by go_num, HK.out, KT.below d4 KT.lt, KL.below d4 KL.lt, Mo.bel' p d4⟩
      case measure => simp [RowKit.intOf]; have := HK.out; omega
    · obtain rfl : k = n := by omega
      obtain ⟨z9, hz9⟩ : ∃ z, L.cmpR (sv q k) ((1 : Rat) / 2) = z := ⟨_, rfl⟩
      have g9 : ¬ z9 > 0 := by rw [← hz9]; unfold L.cmpR; split <;> (first | omega | (rw [if_neg h2]; omega))
      simp only [hz9] at CM
      clear hk hq hN hn h1 h2 SC lt qs2 hz9
      go_wp2_with (first
        | (go_at_call 45; (refine (CM _ _ _ (t2.grow b3) t3).mono ?_); (rintro e w4 ⟨rfl, b4⟩); (have d4 := Mo.bel' (Mo.bel' b2 b3) b4))
        | (go_at_call 62; (refine (FR _).mono ?_); (rintro e w3 ⟨g3, a3, l3, c3, a3', l3', c3', rfl, t3, b3⟩))
        | (go_at_call 58; (refine (SJ _ p).mono ?_); (rintro e w2 ⟨g2, a2, l2, c2, a2', l2', c2', rfl, t2, b2⟩))
        | fail)
      go_ret2
      exact ⟨rfl, Mo.bel' p d4⟩
end Go.Proofs.YtfalncbcomlelaaGreatDoor.Ta

namespace Go.Proofs.YtfalncbcomlelaaGreatDoor.Ta
open Go.RowKit
open Go.Proofs.YtfalncbcomlelaaGreatDoor.Mo (Qf qf_of bput)

set_option maxRecDepth 100000 in
set_option maxHeartbeats 1600000 in
theorem wrong_e (s : ByteArray) (f : Int) (vr vs : Value) (en ys n : Int) (c : Int) (w : World) (hc : (c != 0) = true) (C : ∀ x, Below w.heap.size w x → Calls Tryz.prog 87 #[.agg #[.string s, .int .i64 f, vr, vs]] x fun e w' => e = .returned (.int .i64 c) ∧ Below x.heap.size x w') : Calls Tryz.prog 55 #[.agg #[.string s, .int .i64 f, vr, vs], .agg #[.int .i64 en, .int .i64 ys], .int .i64 n] w fun e w' => e = .returned (.int .i64 c) ∧ Below w.heap.size w w' := by
  have pr : Below w.heap.size w ((w.alloc (.cells #[.string s, .int .i64 f, vr, vs] 46)).alloc (.cells #[.int .i64 en, .int .i64 ys] 48)) := ((Below.refl _ _).alloc (Nat.le_refl _) _).alloc (by simp) _
  have KT := (Blk.new w #[.string s, .int .i64 f, vr, vs] 46).alloc (.cells #[.int .i64 en, .int .i64 ys] 48)
  have KL := Blk.new (w.alloc (.cells #[.string s, .int .i64 f, vr, vs] 46)) #[.int .i64 en, .int .i64 ys] 48
  simp only [World.size_alloc] at KL
  go_enter Tryz.func55, Tryz.ntmps55
  go_wp2_with (first
    | (go_at_call 87; (refine (C _ pr).mono ?_); (rintro e w1 ⟨rfl, b1⟩); (have d1 := b1); (have p1 := Mo.bel' pr d1); (have KT1 := KT.below d1 KT.lt); (have KL1 := KL.below d1 KL.lt); (have c10 := KT1.at 0); (have c11 := KT1.at 1); (have c12 := KT1.at 2); (have c13 := KT1.at 3); (have c14 := KL1.at 0); (have c15 := KL1.at 1); (simp at c10 c11 c12 c13 c14 c15))
    | fail)
  go_ret
  exact ⟨rfl, p1⟩
set_option maxRecDepth 100000 in
set_option maxHeartbeats 1600000 in
theorem wrong_o (s : ByteArray) (f : Int) (vr vs : Value) (en ys n : Int) (w : World) (C : ∀ x, Below w.heap.size w x → Calls Tryz.prog 87 #[.agg #[.string s, .int .i64 f, vr, vs]] x fun e w' => e = .returned (.int .i64 0) ∧ Below x.heap.size x w') (O : ∀ x, Below w.heap.size w x → Calls Tryz.prog 88 #[.agg #[.string s, .int .i64 f, vr, vs], .agg #[.int .i64 en, .int .i64 ys]] x fun e w' => e = .returned (.bool false) ∧ Below x.heap.size x w') : Calls Tryz.prog 55 #[.agg #[.string s, .int .i64 f, vr, vs], .agg #[.int .i64 en, .int .i64 ys], .int .i64 n] w fun e w' => e = .returned (.int .i64 8) ∧ Below w.heap.size w w' := by
  have pr : Below w.heap.size w ((w.alloc (.cells #[.string s, .int .i64 f, vr, vs] 46)).alloc (.cells #[.int .i64 en, .int .i64 ys] 48)) := ((Below.refl _ _).alloc (Nat.le_refl _) _).alloc (by simp) _
  have KT := (Blk.new w #[.string s, .int .i64 f, vr, vs] 46).alloc (.cells #[.int .i64 en, .int .i64 ys] 48)
  have KL := Blk.new (w.alloc (.cells #[.string s, .int .i64 f, vr, vs] 46)) #[.int .i64 en, .int .i64 ys] 48
  simp only [World.size_alloc] at KL
  go_enter Tryz.func55, Tryz.ntmps55
  go_wp2_with (first
    | (go_at_call 87; (refine (C _ pr).mono ?_); (rintro e w1 ⟨rfl, b1⟩); (have d1 := b1); (have p1 := Mo.bel' pr d1); (have KT1 := KT.below d1 KT.lt); (have KL1 := KL.below d1 KL.lt); (have c10 := KT1.at 0); (have c11 := KT1.at 1); (have c12 := KT1.at 2); (have c13 := KT1.at 3); (have c14 := KL1.at 0); (have c15 := KL1.at 1); (simp at c10 c11 c12 c13 c14 c15))
    | (go_at_call 88; (refine (O _ p1).mono ?_); (rintro e w2 ⟨rfl, b2⟩); (have d2 := Mo.bel' d1 b2); (have p2 := Mo.bel' pr d2); (have KT2 := KT.below d2 KT.lt); (have KL2 := KL.below d2 KL.lt); (have c20 := KT2.at 0); (have c21 := KT2.at 1); (have c22 := KT2.at 2); (have c23 := KT2.at 3); (have c24 := KL2.at 0); (have c25 := KL2.at 1); (simp at c20 c21 c22 c23 c24 c25))
    | fail)
  go_ret
  exact ⟨rfl, p2⟩
set_option maxRecDepth 100000 in
set_option maxHeartbeats 1600000 in
theorem wrong_n (s : ByteArray) (f : Int) (vr vs : Value) (en ys n : Int) (k : Int) (w : World) (hk : (0 ≤ n ∧ n ≤ 130 ∧ k = 0) ∨ (n < 0 ∧ k = 1) ∨ (130 < n ∧ k = 1)) (C : ∀ x, Below w.heap.size w x → Calls Tryz.prog 87 #[.agg #[.string s, .int .i64 f, vr, vs]] x fun e w' => e = .returned (.int .i64 0) ∧ Below x.heap.size x w') (O : ∀ x, Below w.heap.size w x → Calls Tryz.prog 88 #[.agg #[.string s, .int .i64 f, vr, vs], .agg #[.int .i64 en, .int .i64 ys]] x fun e w' => e = .returned (.bool true) ∧ Below x.heap.size x w') : Calls Tryz.prog 55 #[.agg #[.string s, .int .i64 f, vr, vs], .agg #[.int .i64 en, .int .i64 ys], .int .i64 n] w fun e w' => e = .returned (.int .i64 k) ∧ Below w.heap.size w w' := by
  have pr : Below w.heap.size w ((w.alloc (.cells #[.string s, .int .i64 f, vr, vs] 46)).alloc (.cells #[.int .i64 en, .int .i64 ys] 48)) := ((Below.refl _ _).alloc (Nat.le_refl _) _).alloc (by simp) _
  have KT := (Blk.new w #[.string s, .int .i64 f, vr, vs] 46).alloc (.cells #[.int .i64 en, .int .i64 ys] 48)
  have KL := Blk.new (w.alloc (.cells #[.string s, .int .i64 f, vr, vs] 46)) #[.int .i64 en, .int .i64 ys] 48
  simp only [World.size_alloc] at KL
  rcases hk with ⟨h1, h2, rfl⟩ | ⟨h1, rfl⟩ | ⟨h1, rfl⟩
  · have g1 : ¬ n < 0 := by omega
    have g2 : ¬ n > 130 := by omega
    go_enter Tryz.func55, Tryz.ntmps55
    go_wp2_with (first
    | (go_at_call 87; (refine (C _ pr).mono ?_); (rintro e w1 ⟨rfl, b1⟩); (have d1 := b1); (have p1 := Mo.bel' pr d1); (have KT1 := KT.below d1 KT.lt); (have KL1 := KL.below d1 KL.lt); (have c10 := KT1.at 0); (have c11 := KT1.at 1); (have c12 := KT1.at 2); (have c13 := KT1.at 3); (have c14 := KL1.at 0); (have c15 := KL1.at 1); (simp at c10 c11 c12 c13 c14 c15))
    | (go_at_call 88; (refine (O _ p1).mono ?_); (rintro e w2 ⟨rfl, b2⟩); (have d2 := Mo.bel' d1 b2); (have p2 := Mo.bel' pr d2); (have KT2 := KT.below d2 KT.lt); (have KL2 := KL.below d2 KL.lt); (have c20 := KT2.at 0); (have c21 := KT2.at 1); (have c22 := KT2.at 2); (have c23 := KT2.at 3); (have c24 := KL2.at 0); (have c25 := KL2.at 1); (simp at c20 c21 c22 c23 c24 c25))
    | fail)
    go_ret
    exact ⟨rfl, p2⟩
  · go_enter Tryz.func55, Tryz.ntmps55
    go_wp2_with (first
    | (go_at_call 87; (refine (C _ pr).mono ?_); (rintro e w1 ⟨rfl, b1⟩); (have d1 := b1); (have p1 := Mo.bel' pr d1); (have KT1 := KT.below d1 KT.lt); (have KL1 := KL.below d1 KL.lt); (have c10 := KT1.at 0); (have c11 := KT1.at 1); (have c12 := KT1.at 2); (have c13 := KT1.at 3); (have c14 := KL1.at 0); (have c15 := KL1.at 1); (simp at c10 c11 c12 c13 c14 c15))
    | (go_at_call 88; (refine (O _ p1).mono ?_); (rintro e w2 ⟨rfl, b2⟩); (have d2 := Mo.bel' d1 b2); (have p2 := Mo.bel' pr d2); (have KT2 := KT.below d2 KT.lt); (have KL2 := KL.below d2 KL.lt); (have c20 := KT2.at 0); (have c21 := KT2.at 1); (have c22 := KT2.at 2); (have c23 := KT2.at 3); (have c24 := KL2.at 0); (have c25 := KL2.at 1); (simp at c20 c21 c22 c23 c24 c25))
    | fail)
    go_ret
    exact ⟨rfl, p2⟩
  · have g1 : ¬ n < 0 := by omega
    have g2 : n > 130 := by omega
    go_enter Tryz.func55, Tryz.ntmps55
    go_wp2_with (first
    | (go_at_call 87; (refine (C _ pr).mono ?_); (rintro e w1 ⟨rfl, b1⟩); (have d1 := b1); (have p1 := Mo.bel' pr d1); (have KT1 := KT.below d1 KT.lt); (have KL1 := KL.below d1 KL.lt); (have c10 := KT1.at 0); (have c11 := KT1.at 1); (have c12 := KT1.at 2); (have c13 := KT1.at 3); (have c14 := KL1.at 0); (have c15 := KL1.at 1); (simp at c10 c11 c12 c13 c14 c15))
    | (go_at_call 88; (refine (O _ p1).mono ?_); (rintro e w2 ⟨rfl, b2⟩); (have d2 := Mo.bel' d1 b2); (have p2 := Mo.bel' pr d2); (have KT2 := KT.below d2 KT.lt); (have KL2 := KL.below d2 KL.lt); (have c20 := KT2.at 0); (have c21 := KT2.at 1); (have c22 := KT2.at 2); (have c23 := KT2.at 3); (have c24 := KL2.at 0); (have c25 := KL2.at 1); (simp at c20 c21 c22 c23 c24 c25))
    | fail)
    go_ret
    exact ⟨rfl, p2⟩
end Go.Proofs.YtfalncbcomlelaaGreatDoor.Ta

namespace Go.Proofs.YtfalncbcomlelaaGreatDoor.Ta
open Go.RowKit Ip
open Go.Proofs.YtfalncbcomlelaaGreatDoor.Mo (Qf qf_of sv al Out_s QSub_q wrt)

theorem svn_0 {s : ByteArray} {f : Int} {rs : List Int} {sel : List (List Int)} {en ys : Int} (h : chk s f rs sel = 0) (h2 : okL f rs en ys = true) {n : Nat} (hn : lft f rs en ys ≤ n) : svn f rs sel en ys n = ((0 : Int) : Rat) := by
  unfold svn
  rw [Nat.min_eq_right hn]
  exact sv_end (q_bd h h2).2.2
theorem ROf_any (s : ByteArray) (f : Int) (vr vs : Value) (rs : List Int) (sel : List (List Int)) (en ys : Int) (w : World) (hr : Rx w vr rs) (h : chk s f rs sel = 0) : Calls Tryz.prog 88 #[.agg #[.string s, .int .i64 f, vr, vs], .agg #[.int .i64 en, .int .i64 ys]] w fun e w' => e = .returned (.bool (okL f rs en ys)) ∧ Below w.heap.size w w' := by
  obtain ⟨_, ⟨ar, cr, rfl, _⟩, hL⟩ := hr
  obtain ⟨_, f1, _, _⟩ := of_chk_0 h
  have La := fun W => RLast_any s f ar rs.length cr vs W f1.1 f1.2.1 hL
  unfold okL
  by_cases g1 : 0 ≤ ys
  · by_cases g2 : f ≤ en
    · by_cases g3 : en ≤ f + (rs.length : Int) - 1
      · rw [decide_eq_decide.2 (show (0 ≤ ys ∧ f ≤ en ∧ en ≤ f + (rs.length : Int) - 1 ∧ ys ≤ f + (rs.length : Int) - 1 - en) ↔ ys ≤ f + (rs.length : Int) - 1 - en from ⟨fun h => h.2.2.2, fun h => ⟨g1, g2, g3, h⟩⟩)]
        exact Of_full s f en ys _ ar rs.length cr vs w _ _ g1 g2 g3 (Mo.wrapI _ (by omega) (by omega)) rfl La
      · rw [decide_eq_false (fun h => g3 h.2.2.1)]
        exact Of_no3 s f en ys _ ar rs.length cr vs w (decide_eq_true g1) (decide_eq_true g2) (decide_eq_false g3) La
    · rw [decide_eq_false (fun h => g2 h.2.1)]
      exact Of_no2 s f en ys ar rs.length cr vs w (decide_eq_true g1) (decide_eq_false g2)
  · rw [decide_eq_false (fun h => g1 h.1)]
    exact Of_no1 s f en ys ar rs.length cr vs w (decide_eq_false g1)
theorem wrong_any (s : ByteArray) (f : Int) (vr vs : Value) (rs : List Int) (sel : List (List Int)) (en ys n : Int) (w : World) (hs : s.size ≤ 140737488351232) (hr : Rx w vr rs) (hsel : Rr w vs sel) : Calls Tryz.prog 55 #[.agg #[.string s, .int .i64 f, vr, vs], .agg #[.int .i64 en, .int .i64 ys], .int .i64 n] w fun e w' => e = .returned (.int .i64 (wr (chk s f rs sel) (okL f rs en ys) n)) ∧ Below w.heap.size w w' := by
  have C := fun x (b : Below w.heap.size w x) => RCheck_any s f vr vs rs sel x hs (hr.grow b) (hsel.grow b)
  by_cases c1 : chk s f rs sel = 0
  · have O := fun x (b : Below w.heap.size w x) => ROf_any s f vr vs rs sel en ys x (hr.grow b) c1
    simp only [c1] at C
    rw [c1]
    cases c2 : okL f rs en ys
    · simp only [c2] at O
      rw [wr_8]
      exact wrong_o s f vr vs en ys n w C O
    · simp only [c2] at O
      by_cases h3 : 0 ≤ n ∧ n ≤ 130
      · rw [wr_k h3]
        exact wrong_n s f vr vs en ys n 0 w (Or.inl ⟨h3.1, h3.2, rfl⟩) C O
      · rw [wr_1 h3]
        exact wrong_n s f vr vs en ys n 1 w (Or.inr (by omega)) C O
  · rw [wr_c c1]
    exact wrong_e s f vr vs en ys n _ w (bne_0 c1) C
theorem RS_q (s : ByteArray) (f : Int) (vr vs : Value) (rs : List Int) (sel : List (List Int)) (en ys : Int) (w : World) (hr : Rx w vr rs) (hsel : Rr w vs sel) (c1 : chk s f rs sel = 0) (c2 : okL f rs en ys = true) (m : Nat) (x : World) (b : Below w.heap.size w x) : Calls Tryz.prog 58 #[.agg #[.string s, .int .i64 f, vr, vs], .agg #[.int .i64 en, .int .i64 ys], .int .i64 (m : Int)] x (Qf (svn f rs sel en ys m) x) := by
  obtain ⟨hq, hN, _⟩ := q_bd c1 c2
  obtain ⟨le, _⟩ := lft_ok c2
  have hr0 := hr.grow b
  have hs0 := hsel.grow b
  have hr' := hr
  obtain ⟨_, ⟨ar, cr, rfl, _⟩, hL⟩ := hr'
  obtain ⟨_, f1, _, _⟩ := of_chk_0 c1
  obtain ⟨o1, o2, o3, o4⟩ := of_decide_eq_true c2
  have LE : ∀ y, Below x.heap.size x y → Calls Tryz.prog 57 #[.agg #[.string s, .int .i64 f, .slice ar rs.length cr, vs], .agg #[.int .i64 en, .int .i64 ys]] y fun e w' => e = .returned (.int .i64 (lft f rs en ys : Int)) ∧ Below y.heap.size y w' := fun y _ =>
    Left_r s f en ys (f + (rs.length : Int) - 1) ar rs.length cr vs y _ _ _ (Mo.wrapI _ (by omega) (by omega)) (Mo.wrapI _ (by omega) (by omega)) (by rw [show f + (rs.length : Int) - 1 - en - ys + 1 = (lft f rs en ys : Int) by omega]; exact Mo.wrapI _ (by omega) (by omega)) (fun W => RLast_any s f ar rs.length cr vs W f1.1 f1.2.1 hL)
  by_cases h : m ≤ lft f rs en ys
  · have := S_some s f en ys ar rs.length cr vs (lft f rs en ys) (rt f rs sel en ys) x m h (by omega) hq LE (fun y k hk bb => RateIn_some s f _ vs rs sel en ys y (hr0.grow bb) (hs0.grow bb) c1 c2 _ le k hk)
    unfold svn
    rw [Nat.min_eq_left h]
    exact this
  · rw [svn_0 c1 c2 (by omega)]
    exact S_none s f en ys ar rs.length cr vs (lft f rs en ys) x m (by omega) LE
end Go.Proofs.YtfalncbcomlelaaGreatDoor.Ta
