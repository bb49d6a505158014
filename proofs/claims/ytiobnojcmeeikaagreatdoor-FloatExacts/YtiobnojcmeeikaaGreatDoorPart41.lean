import Derived.Test.YtiobnojcmeeikaaGreatDoorPart40
import Derived.Test.YtiobnojcmeeikaaGreatDoorPart39
import Derived.Test.YtiobnojcmeeikaaGreatDoorPart38

namespace Go.Proofs.YtiobnojcmeeikaaGreatDoor.Wt
open Go.RowKit Tn Mo

theorem Lr.next {w wr x x2 : World} {g cap k g' cap' : Nat} {vals : List Value} (h : Lr w wr g cap k vals) (b : Below wr.heap.size wr x) (gr : x.grownBy x2 (some g)) {a : Option Addr} {l c : Nat} (hn : Nn x a l c ((rung k : Nat) : Int)) (R : Rg x2 g' cap' (vals ++ [.slice a l c])) (hc : cap' ≤ maxLen) (hg : g' = g ∨ x.heap.size ≤ g') : Lr w x2 g' cap' (k + 1) (vals ++ [.slice a l c]) := by
  have R1 := h.R.grow b
  refine ⟨R, hc, by rw [List.length_append, h.len]; rfl, fun i hi => ?_, ?_, ?_⟩
  · by_cases e : i = k
    · subst e
      exact ⟨a, l, c, by rw [List.getElem?_append_right (by rw [h.len]; exact Nat.le_refl _), h.len]; simp, Nn.row hn R1 gr⟩
    · obtain ⟨a1, l1, c1, e1, n1⟩ := h.v i (by omega)
      exact ⟨a1, l1, c1, by rw [List.getElem?_append_left (by rw [h.len]; omega)]; exact e1, Nn.row (n1.grow b) R1 gr⟩
  · have s1 := h.bel.size
    have s2 := b.size
    have ge := h.ge
    refine (h.bel.trans (b.mono s1)).trans ⟨gr.os, gr.tape, gr.output, gr.size, fun j hj => gr.block j (by omega) (fun e => ?_)⟩
    simp only [Option.some.injEq] at e
    omega
  · have s1 := h.bel.size
    have s2 := b.size
    have ge := h.ge
    rcases hg with rfl | hg
    · exact ge
    · have := h.R.lt
      omega
theorem Lr.grow {w wr x : World} {g cap k : Nat} {vals : List Value} (h : Lr w wr g cap k vals) (b : Below wr.heap.size wr x) : Lr w x g cap k vals :=
  ⟨h.R.grow b, h.cm, h.len, fun i hi => by obtain ⟨a, l, c, e, n⟩ := h.v i hi; exact ⟨a, l, c, e, n.grow b⟩, bel' h.bel b, h.ge⟩
def slenV : Value → Nat | .slice _ n _ => n | _ => 0
set_option maxRecDepth 100000 in
set_option maxHeartbeats 3200000 in
theorem ladder_any (p : Option Addr) (l c A : Nat) (w : World) (hA : Nn w p l c (A : Int)) (hb : nb A ≤ 32000) (hAp : (A : Int) < pw 1000000) :
    Calls Tryz.prog 61 #[.agg #[.slice p l c]] w fun e w' => ∃ g cap k vals, e = .returned (.slice (some ⟨g, 0, none⟩) k cap) ∧ 1 ≤ k ∧ k ≤ 9 ∧ k ≤ cap ∧ A < rung k ∧ Lr w w' g cap k vals := by
  have B0 := Bx.new w (.slice p l c) 56
  have al := (Below.refl w.heap.size w).alloc (Nat.le_refl _) (.cells #[.slice p l c] 56)
  have OF := Of_any 10000000000000000000
  go_enter Tryz.func61, Tryz.ntmps61
  go_wp2_with (first
    | (go_at_call 19; go_must (refine (OF _ (by decide) (by decide)).mono ?_; rintro e w1 ⟨r, zs, rfl, q1, n1, v1, b1⟩; obtain ⟨a1, l1, c1, rfl⟩ := q1.shape))
    | fail)
  have b2 := bel' al b1
  have K1 := Blk.new w1 #[.slice a1 l1 c1] 56
  have al1 := (Below.refl w1.heap.size w1).alloc (Nat.le_refl _) (.cells #[.slice a1 l1 c1] 56)
  have L0 : Lr w (w1.alloc (.cells #[.slice a1 l1 c1] 56)) w1.heap.size 1 1 [.slice a1 l1 c1] := by
    refine ⟨⟨⟨_, K1, rfl, rfl, fun u hu => ⟨a1, l1, c1, by simpa using hu⟩⟩, Nat.le_refl _⟩, by decide, rfl, fun i hi => ?_, bel' b2 al1, (by have := b1.size; simp at this; omega)⟩
    obtain rfl : i = 0 := by omega
    refine ⟨a1, l1, c1, rfl, Nn.grow ⟨zs, q1, n1, ?_⟩ al1⟩
    rw [v1]; decide
  have BA := (B0.below b1).below al1
  generalize w1.alloc (.cells #[.slice a1 l1 c1] 56) = W at *
  clear OF q1 n1 v1 b1 b2 K1 al1
  go_loopw [3] (fun v wr => ∃ (g cap k : Nat) (vals : List Value), v = .slice (some ⟨g, 0, none⟩) k cap ∧ 1 ≤ k ∧ k ≤ 9 ∧ Lr w wr g cap k vals ∧ Bx wr w.heap.size (.slice p l c)) (fun v _ => 10 - slenV v)
  case atStart => exact ⟨_, _, 1, _, rfl, by decide, by decide, L0, BA⟩
  case round =>
    clear L0 BA B0
    obtain ⟨g, cap, k, vals, rfl, hk1, hk8, LR, BA⟩ := hrel
    obtain ⟨j, hj⟩ : ∃ j, k = j + 1 := ⟨k - 1, by omega⟩
    obtain ⟨ta, tl, tc, ev, nT⟩ := LR.v j (by omega)
    have ct := LR.R.at ev
    have lg := LR.R.lt
    have x1 : IntKind.i64.wrap ((k : Int) - 1) = (j : Int) := by rw [show (k : Int) - 1 = (j : Int) by omega]; exact wrapI _ (by omega) (by omega)
    have y0 : (0 : Int) ≤ (j : Int) := by omega
    have y1 : ((j : Int)).toNat = j := by omega
    have y2 : (j : Int) < (k : Int) := by omega
    have bT := (Below.refl wr.heap.size wr).alloc (Nat.le_refl _) (.cells #[.slice ta tl tc] 56)
    have KT := Bx.new wr (.slice ta tl tc) 56
    have KA := BA.below bT
    have nT1 := nT.grow bT
    have nA1 := (hA.grow LR.bel).grow bT
    have hj7 : j ≤ 8 := by omega
    obtain ⟨tb, htb⟩ : ∃ t, nb (rung j) = t := ⟨_, rfl⟩
    obtain ⟨ab, hab⟩ : ∃ t, nb A = t := ⟨_, rfl⟩
    have tb8 : tb ≤ 16384 := by rw [← htb]; exact nb_rung hj7
    have CT := fun (x : World) (b : Below (wr.alloc (.cells #[.slice ta tl tc] 56)).heap.size (wr.alloc (.cells #[.slice ta tl tc] 56)) x) => BitLen_n (nT1.grow b) (rung_pw hj7) (by decide)
    have CA := fun (x : World) (b : Below (wr.alloc (.cells #[.slice ta tl tc] 56)).heap.size (wr.alloc (.cells #[.slice ta tl tc] 56)) x) => BitLen_n (nA1.grow b) hAp (by decide)
    rw [htb] at CT
    rw [hab] at CA hb
    have x2 : IntKind.i64.wrap (2 * (tb : Int)) = 2 * (tb : Int) := wrapI _ (by omega) (by omega)
    obtain ⟨Z, hZ⟩ : ∃ Z : Int, 2 * (tb : Int) - 1 = Z := ⟨_, rfl⟩
    have x3 : IntKind.i64.wrap (2 * (tb : Int) - 1) = Z := by rw [hZ]; exact wrapI _ (by omega) (by omega)
    have HS : Hid (Lr w wr g cap k vals) := LR
    have HJ : Hid (k = j + 1) := hj
    clear LR nT hj
    go_wp2_with fail
    generalize wr.alloc (.cells #[.slice ta tl tc] 56) = W1 at *
    have t0 := KT.1
    have t1 := KA.1
    have lT := KT.lt
    have lA := KA.lt
    have CT0 := CT W1.drew ((Below.refl _ _).drew)
    by_cases hgt : ab < 2 * tb - 1
    · have hgt' : (ab : Int) < Z := by omega
      have hlt := below_square (A := A) (k := j) (by rw [hab, htb]; exact hgt)
      clear hgt hZ
      go_region_held3 (fun x => x.cell? ⟨wr.heap.size, 0, none⟩ = some (.slice ta tl tc) ∧ x.cell? ⟨w.heap.size, 0, none⟩ = some (.slice p l c)) (go_keep) (first
        | (go_at_call 47; refine (CA w5 (bel' (Below.refl _ _).drew b5)).mono ?_; rintro e w6 ⟨rfl, b6⟩; have s2 := (b6.cell (p := ⟨wr.heap.size, 0, none⟩) (lt_of_cell s0)).trans s0; have s3 := (b6.cell (p := ⟨w.heap.size, 0, none⟩) (lt_of_cell s1)).trans s1)
        | (go_at_call 47; refine CT0.mono ?_; rintro e w5 ⟨rfl, b5⟩; have s0 := (b5.cell (p := ⟨wr.heap.size, 0, none⟩) lT).trans t0; have s1 := (b5.cell (p := ⟨w.heap.size, 0, none⟩) lA).trans t1)
        | fail)
      all_goals
        have b7 := bel' (bel' bT (bel' (Below.refl _ _).drew b5)) b6
        have LE := HS.out.grow b7
        have hkc : k ≤ cap := by have := HS.out.R.le; rw [HS.out.len] at this; exact this
        clear HS CT CA CT0
        go_wp2
        go_ret
        exact ⟨g, cap, k, vals, rfl, hk1, hk8, hkc, by rw [HJ.out]; exact hlt, LE⟩
    · have hgt' : ¬ (ab : Int) < Z := by omega
      have hj6 := few_rungs (A := A) (k := j) (by rw [hab]; exact hb) (by rw [hab, htb]; exact hgt)
      clear hgt hZ
      go_region_held3 (fun x => x.cell? ⟨wr.heap.size, 0, none⟩ = some (.slice ta tl tc) ∧ x.cell? ⟨w.heap.size, 0, none⟩ = some (.slice p l c)) (go_keep) (first
        | (go_at_call 47; refine (CA w5 (bel' (Below.refl _ _).drew b5)).mono ?_; rintro e w6 ⟨rfl, b6⟩; have s2 := (b6.cell (p := ⟨wr.heap.size, 0, none⟩) (lt_of_cell s0)).trans s0; have s3 := (b6.cell (p := ⟨w.heap.size, 0, none⟩) (lt_of_cell s1)).trans s1)
        | (go_at_call 47; refine CT0.mono ?_; rintro e w5 ⟨rfl, b5⟩; have s0 := (b5.cell (p := ⟨wr.heap.size, 0, none⟩) lT).trans t0; have s1 := (b5.cell (p := ⟨w.heap.size, 0, none⟩) lA).trans t1)
        | fail)
      all_goals
        have b7 := bel' (bel' bT (bel' (Below.refl _ _).drew b5)) b6
        have nT2 := (nT1.grow (bel' (Below.refl _ _).drew b5)).grow b6
        have MU := Mul_n nT2 nT2 (rung_pw6 hj6) (rung_pw6 hj6) (by unfold MulOK; omega)
        rw [show ((rung j : Nat) : Int) * ((rung j : Nat) : Int) = ((rung k : Nat) : Int) by rw [HJ.out, rung_next]; simp] at MU
        have LE := HS.out.grow b7
        clear HS CT CA CT0 hAp hb nT2 nT1 nA1 x2 x3 tb8
        go_wp2_with (first
          | (go_at_call 67; go_must (refine MU.mono ?_; rintro e w7 ⟨ma, ml, mc, rfl, nM, b8⟩; (have b9 := (bel' b8 ((Below.refl w7.heap.size w7).alloc (Nat.le_refl _) (.cells #[.slice ma ml mc] 56)))); (have LF := LE.grow b9); (have c9 : (w7.alloc (.cells #[.slice ma ml mc] 56)).cell? ⟨w7.heap.size, 0, none⟩ = some (.slice ma ml mc) := by simp)))
          | (at_builtin; go_must (refine wpList_rung rfl _ _ rfl g cap k vals LF.len.symm rfl LF.R w7.heap.size 1 ma ml mc rfl c9 (by rw [LF.len]; exact Nat.le_trans hk8 (by decide)) LF.cm ?_; intro g2 cap2 w8 R8 gr8 cm8 gg8))
          | fail)
        have NX := LE.next b9 gr8 (nM.grow ((Below.refl _ _).alloc (Nat.le_refl _) _)) R8 cm8 gg8
        have BA8 : Bx w8 w.heap.size (.slice p l c) := (BA.below (bel' b7 b9)).blocks (gr8.block _ (Nat.lt_of_lt_of_le BA.lt (bel' b7 b9).size) (fun e => by
          simp only [Option.some.injEq] at e
          have := LF.ge
          omega))
        go_roundw
        case rel => exact ⟨g2, cap2, k + 1, _, by go_num, by omega, (by have := HJ.out; omega), NX, BA8⟩
        case measure => simp [slenV]; omega
end Go.Proofs.YtiobnojcmeeikaaGreatDoor.Wt

namespace Go.Proofs.YtiobnojcmeeikaaGreatDoor.Mo
open Go.RowKit Fu Tn Go.Lib

end Go.Proofs.YtiobnojcmeeikaaGreatDoor.Mo
