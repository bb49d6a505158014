import Derived.Test.YtapdhadpdbmkcaaGreatDoorPart36
import Derived.Test.YtapdhadpdbmkcaaGreatDoorPart23
import Derived.Test.YtapdhadpdbmkcaaGreatDoorPart33
import Derived.Test.YtapdhadpdbmkcaaGreatDoorShelf
import Derived.Test.YtapdhadpdbmkcaaGreatDoorPart34
import Derived.Test.YtapdhadpdbmkcaaGreatDoorPart30

namespace Go.Proofs.YtapdhadpdbmkcaaGreatDoor.Wt
open Go.RowKit Tn Mo

theorem Lr.next {w wr x x2 : World} {g cap k g' cap' : Nat} {vals : List Value} (h : Lr w wr g cap k vals) (b : Below wr.heap.size wr x) (gr : x.grownBy x2 (some g)) {a : Option Addr} {l c : Nat} (hn : Nn x a l c ((rung k : Nat) : Int)) (R : Rg x2 g' cap' (vals ++ [.slice a l c])) (hc : cap' ≤ maxLen) (hg : g' = g ∨ x.heap.size ≤ g') : Lr w x2 g' cap' (k + 1) (vals ++ [.slice a l c]) := by
 have R1 := h.R.grow b
 refine ⟨R, hc, by rw [List.length_append, h.len]; rfl, fun i hi => ?_, ?_, ?_⟩
 ·by_cases e : i = k
  ·subst e
   exact ⟨a, l, c, by rw [List.getElem?_append_right (by rw [h.len]; exact Nat.le_refl _), h.len]; simp, Nn.row hn R1 gr⟩
  ·obtain ⟨a1, l1, c1, e1, n1⟩ := h.v i (by omega)
   exact ⟨a1, l1, c1, by rw [List.getElem?_append_left (by rw [h.len]; omega)]; exact e1, Nn.row (n1.grow b) R1 gr⟩
 ·have s1 := h.bel.size
  have s2 := b.size
  have ge := h.ge
  refine (h.bel.trans (b.mono s1)).trans ⟨gr.os, gr.tape, gr.output, gr.size, fun j hj => gr.block j (by omega) (fun e => ?_)⟩
  simp only [Option.some.injEq] at e
  omega
 ·have s1 := h.bel.size
  have s2 := b.size
  have ge := h.ge
  rcases hg with rfl | hg
  ·exact ge
  ·have := h.R.lt
   omega
theorem Lr.grow {w wr x : World} {g cap k : Nat} {vals : List Value} (h : Lr w wr g cap k vals) (b : Below wr.heap.size wr x) : Lr w x g cap k vals :=
 ⟨h.R.grow b, h.cm, h.len, fun i hi => by obtain ⟨a, l, c, e, n⟩ := h.v i hi; exact ⟨a, l, c, e, n.grow b⟩, bel' h.bel b, h.ge⟩
def slenV : Value → Nat | .slice _ n _ => n | _ => 0
set_option maxRecDepth 100000 in
set_option maxHeartbeats 3200000 in
theorem ladder_any (p : Option Addr) (l c A : Nat) (w : World) (hA : Nn w p l c (A : Int)) (hb : nb A ≤ 16000) (hAp : (A : Int) < pw 1000000) :
  Calls Tryz.prog 68 #[.agg #[.slice p l c]] w fun e w' => ∃ g cap k vals, e = .returned (.slice (some ⟨g, 0, none⟩) k cap) ∧ 1 ≤ k ∧ k ≤ 8 ∧ k ≤ cap ∧ A < rung k ∧ Lr w w' g cap k vals := by
 have B0 := Bx.new w (.slice p l c) 42
 have al := (Below.refl w.heap.size w).alloc (Nat.le_refl _) (.cells #[.slice p l c] 42)
 have OF := Of_any 10000000000000000000
 go_enter Tryz.func68, Tryz.ntmps68
 go_wp2_with (first
  | (go_at_call 19; go_must (refine (OF _ (by decide) (by decide)).mono ?_; rintro e w1 ⟨r, zs, rfl, q1, n1, v1, b1⟩; obtain ⟨a1, l1, c1, rfl⟩ := q1.shape))
  | fail)
 have b2 := bel' al b1
 have K1 := Blk.new w1 #[.slice a1 l1 c1] 42
 have al1 := (Below.refl w1.heap.size w1).alloc (Nat.le_refl _) (.cells #[.slice a1 l1 c1] 42)
 have L0 : Lr w (w1.alloc (.cells #[.slice a1 l1 c1] 42)) w1.heap.size 1 1 [.slice a1 l1 c1] := by
  refine ⟨⟨⟨_, K1, rfl, rfl, fun u hu => ⟨a1, l1, c1, by simpa using hu⟩⟩, Nat.le_refl _⟩, by decide, rfl, fun i hi => ?_, bel' b2 al1, (by have := b1.size; simp at this; omega)⟩
  obtain rfl : i = 0 := by omega
  refine ⟨a1, l1, c1, rfl, Nn.grow ⟨zs, q1, n1, ?_⟩ al1⟩
  rw [v1]; decide
 have BA := (B0.below b1).below al1
 generalize w1.alloc (.cells #[.slice a1 l1 c1] 42) = W at *
 clear OF q1 n1 v1 b1 b2 K1 al1
 go_loopw [3] (fun v wr => ∃ (g cap k : Nat) (vals : List Value), v = .slice (some ⟨g, 0, none⟩) k cap ∧ 1 ≤ k ∧ k ≤ 8 ∧ Lr w wr g cap k vals ∧ Bx wr w.heap.size (.slice p l c)) (fun v _ => 9 - slenV v)
 case atStart => exact ⟨_, _, 1, _, rfl, by decide, by decide, L0, BA⟩
 case round =>
  clear L0 BA B0
  obtain ⟨g, cap, k, vals, rfl, hk1, hk8, LR, BA⟩ := hrel
  obtain ⟨j, hj⟩ : ∃ j, k = j + 1 := ⟨k - 1, by omega⟩
  obtain ⟨ta, tl, tc, ev, nT⟩ := LR.v j (by omega)
  have ct := LR.R.at ev
  have lg := LR.R.lt
  have x1 : IntKind.i64.wrap ((k : Int) - 1) = (j : Int) := by rw [show (k : Int) - 1 = (j : Int) by omega]; exact wrapI _ (by omega) (by omega)
  have y0 : (0 : Int) ≤ (j : Int) := by omega
  have y1 : ((j : Int)).toNat = j := by omega
  have y2 : (j : Int) < (k : Int) := by omega
  have bT := (Below.refl wr.heap.size wr).alloc (Nat.le_refl _) (.cells #[.slice ta tl tc] 42)
  have KT := Bx.new wr (.slice ta tl tc) 42
  have KA := BA.below bT
  have nT1 := nT.grow bT
  have nA1 := (hA.grow LR.bel).grow bT
  have hj7 : j ≤ 7 := by omega
  obtain ⟨tb, htb⟩ : ∃ t, nb (rung j) = t := ⟨_, rfl⟩
  obtain ⟨ab, hab⟩ : ∃ t, nb A = t := ⟨_, rfl⟩
  have tb8 : tb ≤ 8192 := by rw [← htb]; exact nb_rung hj7
  have CT := fun (x : World) (b : Below (wr.alloc (.cells #[.slice ta tl tc] 42)).heap.size (wr.alloc (.cells #[.slice ta tl tc] 42)) x) => BitLen_n (nT1.grow b) (rung_pw hj7) (by decide)
  have CA := fun (x : World) (b : Below (wr.alloc (.cells #[.slice ta tl tc] 42)).heap.size (wr.alloc (.cells #[.slice ta tl tc] 42)) x) => BitLen_n (nA1.grow b) hAp (by decide)
  rw [htb] at CT
  rw [hab] at CA hb
  have x2 : IntKind.i64.wrap (2 * (tb : Int)) = 2 * (tb : Int) := wrapI _ (by omega) (by omega)
  obtain ⟨Z, hZ⟩ : ∃ Z : Int, 2 * (tb : Int) - 1 = Z := ⟨_, rfl⟩
  have x3 : IntKind.i64.wrap (2 * (tb : Int) - 1) = Z := by rw [hZ]; exact wrapI _ (by omega) (by omega)
  have HS : Hid (Lr w wr g cap k vals) := LR
  have HJ : Hid (k = j + 1) := hj
  clear LR nT hj
  go_wp2_with fail
  generalize wr.alloc (.cells #[.slice ta tl tc] 42) = W1 at *
  have t0 := KT.1
  have t1 := KA.1
  have lT := KT.lt
  have lA := KA.lt
  have CT0 := CT W1.drew ((Below.refl _ _).drew)
  by_cases hgt : ab < 2 * tb - 1
  ·have hgt' : (ab : Int) < Z := by omega
   have hlt := below_square (A := A) (k := j) (by rw [hab, htb]; exact hgt)
   clear hgt hZ
   go_region_held3 (fun x => x.cell? ⟨wr.heap.size, 0, none⟩ = some (.slice ta tl tc) ∧ x.cell? ⟨w.heap.size, 0, none⟩ = some (.slice p l c)) (go_keep) (first
    | (go_at_call 89; refine (CA w5 (bel' (Below.refl _ _).drew b5)).mono ?_; rintro e w6 ⟨rfl, b6⟩; have s2 := (b6.cell (p := ⟨wr.heap.size, 0, none⟩) (lt_of_cell s0)).trans s0; have s3 := (b6.cell (p := ⟨w.heap.size, 0, none⟩) (lt_of_cell s1)).trans s1)
    | (go_at_call 89; refine CT0.mono ?_; rintro e w5 ⟨rfl, b5⟩; have s0 := (b5.cell (p := ⟨wr.heap.size, 0, none⟩) lT).trans t0; have s1 := (b5.cell (p := ⟨w.heap.size, 0, none⟩) lA).trans t1)
    | fail)
   all_goals
    have b7 := bel' (bel' bT (bel' (Below.refl _ _).drew b5)) b6
    have LE := HS.out.grow b7
    have hkc : k ≤ cap := by have := HS.out.R.le; rw [HS.out.len] at this; exact this
    clear HS CT CA CT0
    go_wp2
    go_ret
    exact ⟨g, cap, k, vals, rfl, hk1, hk8, hkc, by rw [HJ.out]; exact hlt, LE⟩
  ·have hgt' : ¬ (ab : Int) < Z := by omega
   have hj6 := few_rungs (A := A) (k := j) (by rw [hab]; exact hb) (by rw [hab, htb]; exact hgt)
   clear hgt hZ
   go_region_held3 (fun x => x.cell? ⟨wr.heap.size, 0, none⟩ = some (.slice ta tl tc) ∧ x.cell? ⟨w.heap.size, 0, none⟩ = some (.slice p l c)) (go_keep) (first
    | (go_at_call 89; refine (CA w5 (bel' (Below.refl _ _).drew b5)).mono ?_; rintro e w6 ⟨rfl, b6⟩; have s2 := (b6.cell (p := ⟨wr.heap.size, 0, none⟩) (lt_of_cell s0)).trans s0; have s3 := (b6.cell (p := ⟨w.heap.size, 0, none⟩) (lt_of_cell s1)).trans s1)
    | (go_at_call 89; refine CT0.mono ?_; rintro e w5 ⟨rfl, b5⟩; have s0 := (b5.cell (p := ⟨wr.heap.size, 0, none⟩) lT).trans t0; have s1 := (b5.cell (p := ⟨w.heap.size, 0, none⟩) lA).trans t1)
    | fail)
   all_goals
    have b7 := bel' (bel' bT (bel' (Below.refl _ _).drew b5)) b6
    have nT2 := (nT1.grow (bel' (Below.refl _ _).drew b5)).grow b6
    have MU := Mul_n nT2 nT2 (rung_pw6 hj6) (rung_pw6 hj6) (by unfold MulOK; omega)
    rw [show ((rung j : Nat) : Int) * ((rung j : Nat) : Int) = ((rung k : Nat) : Int) by rw [HJ.out, rung_next]; simp] at MU
    have LE := HS.out.grow b7
    clear HS CT CA CT0 hAp hb nT2 nT1 nA1 x2 x3 tb8
    go_wp2_with (first
     | (go_at_call 31; go_must (refine MU.mono ?_; rintro e w7 ⟨ma, ml, mc, rfl, nM, b8⟩; (have b9 := (bel' b8 ((Below.refl w7.heap.size w7).alloc (Nat.le_refl _) (.cells #[.slice ma ml mc] 42)))); (have LF := LE.grow b9); (have c9 : (w7.alloc (.cells #[.slice ma ml mc] 42)).cell? ⟨w7.heap.size, 0, none⟩ = some (.slice ma ml mc) := by simp)))
     | (at_builtin; go_must (refine wpList_rung rfl _ _ rfl g cap k vals LF.len.symm rfl LF.R w7.heap.size 1 ma ml mc rfl c9 (by rw [LF.len]; exact Nat.le_trans hk8 (by decide)) LF.cm ?_; intro g2 cap2 w8 R8 gr8 cm8 gg8))
     | fail)
    have NX := LE.next b9 gr8 (nM.grow ((Below.refl _ _).alloc (Nat.le_refl _) _)) R8 cm8 gg8
    have BA8 : Bx w8 w.heap.size (.slice p l c) := (BA.below (bel' b7 b9)).blocks (gr8.block _ (Nat.lt_of_lt_of_le BA.lt (bel' b7 b9).size) (fun e => by
     simp only [Option.some.injEq] at e
     have := LF.ge
     omega))
    go_roundw
    case rel => exact ⟨g2, cap2, k + 1, _, by go_num, by omega, (by have := HJ.out; omega), NX, BA8⟩
    case measure => simp [slenV]; omega
end Go.Proofs.YtapdhadpdbmkcaaGreatDoor.Wt

namespace Go.Proofs.YtapdhadpdbmkcaaGreatDoor.Wt
open Go.RowKit Tn Mo Go.Lib

theorem drop_lead {a b : List UInt8} {c : UInt8} {t : List UInt8} (h1 : ∀ x ∈ a, x = 48) (h2 : b = c :: t) (h3 : c.toNat ≠ 48) : (a ++ b).dropWhile (· == 48) = b := by
 induction a with
 | nil =>
  subst h2
  have : (c == 48) = false := by
   rw [beq_eq_false_iff_ne]
   rintro rfl
   exact h3 rfl
  simp [this]
 | cons x a ih =>
  obtain rfl := h1 x (by simp)
  rw [List.cons_append, List.dropWhile_cons]
  simp only [beq_self_eq_true, if_true]
  exact ih (fun x hx => h1 x (by simp [hx]))
theorem str_list (xs : List Int) : (strOfNums xs).data.toList = xs.map fun n => UInt8.ofNat n.toNat := by simp [strOfNums]
theorem trim_pd (V N : Nat) (h : nDigits V ≤ N) (h0 : 0 < V) : trimLeftB (strOfNums (pd V N)).data.toList 48 = decDigits V := by
 have e : pd V N = Dc.dgs V N N := rfl
 have hs := congrArg (fun s : ByteArray => s.data.toList) (Dc.dgs_str V N h)
 simp only [str_list] at hs
 rw [e, str_list]
 unfold trimLeftB
 rw [← List.take_append_drop (N - nDigits V) (Dc.dgs V N N), List.map_append, hs]
 obtain ⟨c, t, ec, _, hc⟩ := dec_cons V
 refine drop_lead (fun x hx => ?_) ec (hc h0)
 obtain ⟨n, hn, rfl⟩ := List.mem_map.1 hx
 obtain ⟨i, hi⟩ := List.getElem?_of_mem hn
 have hl : i < N - nDigits V := by
  by_cases q : i < N - nDigits V
  ·exact q
  ·rw [List.getElem?_eq_none (by rw [List.length_take]; omega)] at hi; cases hi
 rw [List.getElem?_take, if_pos hl] at hi
 have g := Dc.dgs_at V N N i (by omega)
 rw [List.getD_eq_getElem?_getD, hi] at g
 simp only [Option.getD_some] at g
 rw [g, Dc.high_digit V (N - 1 - i) (by omega)]
 rfl
theorem Lr.ru {w wr : World} {g cap k : Nat} {vals : List Value} (h : Lr w wr g cap k vals) : Ru wr wr.heap.size g 0 k := by
 refine ⟨h.R.lt, fun i hi => ?_⟩
 obtain ⟨a, l, c, e, n⟩ := h.v i hi
 refine ⟨a, l, c, by rw [Nat.zero_add]; exact h.R.at e, n, fun ad ea => ?_⟩
 obtain ⟨xs, ⟨hW, a1, c1, e1, _, _, h3⟩, _, hv⟩ := n
 have pos : 0 < xs.length := by
  by_cases q : 0 < xs.length
  ·exact q
  ·have : xs = [] := List.eq_nil_of_length_eq_zero (by omega)
   subst this
   have := rung_pos i
   have z : val [] = 0 := rfl
   rw [z] at hv
   omega
 obtain ⟨b, o, e2, q⟩ := h3 pos
 simp only [Value.slice.injEq] at e1
 rw [e1.1, e2] at ea
 cases ea
 exact lt_of_cell (q 0 pos)
end Go.Proofs.YtapdhadpdbmkcaaGreatDoor.Wt

namespace Go.Proofs.YtapdhadpdbmkcaaGreatDoor.Wt
open Go.RowKit Tn Mo Go.Lib

theorem nDig_of {V k : Nat} (h : V < rung k) : nDigits V ≤ 19 * 2 ^ k := by
 refine Dc.nDigits_le (Nat.mul_pos (by decide) (Nat.pow_pos (by decide))) ?_
 rw [ten_pow]
 exact h
theorem nb_pw {A n : Nat} (h : nb A ≤ 64 * n) : (A : Int) < pw n := by
 rw [pw_two]
 exact lt_cast (Nat.lt_of_lt_of_le (nb_spec A).1 (Nat.pow_le_pow_right (by decide) h))
set_option maxRecDepth 100000 in
set_option maxHeartbeats 3200000 in
/-- Text of a number of two words and more, of at most sixteen thousand bits. -/
theorem Text_many (p : Option Addr) (l c A : Nat) (w : World) (hA : Nn w p l c (A : Int)) (hb : nb A ≤ 16000) (h2 : 18446744073709551616 ≤ A) :
  Calls Tryz.prog 34 #[.agg #[.slice p l c]] w fun e w' => e = .returned (.string ⟨(decDigits A).toArray⟩) ∧ Below w.heap.size w w' := by
 have hAp : (A : Int) < pw 1000000 := nb_pw (by omega)
 have hl : 2 ≤ l := by
  obtain ⟨xs, ⟨hW, a1, c1, e, _⟩, n, hv⟩ := hA
  simp only [Value.slice.injEq] at e
  rw [e.2.1]
  by_cases q : 2 ≤ xs.length
  ·exact q
  ·exfalso
   have v1 := val_lt hW
   have := pw_mono (show xs.length ≤ 1 by omega)
   have p1 : pw 1 = 18446744073709551616 := by decide
   omega
 have hlm : (l : Int) ≤ 9223372036854775807 := by
  obtain ⟨xs, ⟨hW, a1, c1, e, h3, h4, _⟩, n, hv⟩ := hA
  simp only [Value.slice.injEq] at e
  unfold maxLen at h4
  omega
 have hl' : ¬ (l : Int) ≤ 1 := by omega
 have B0 := Bx.new w (.slice p l c) 42
 have al := (Below.refl w.heap.size w).alloc (Nat.le_refl _) (.cells #[.slice p l c] 42)
 have nA := hA.grow al
 have q0 := B0.1
 have lB := B0.lt
 have LA := fun (x : World) (h : Nn x p l c (A : Int)) => ladder_any p l c A x h hb hAp
 have HP : Hid ((A : Int) < pw 1000000) := hAp
 clear hAp hA
 go_enter Tryz.func34, Tryz.ntmps34
 go_wp2_with fail
 generalize w.alloc (.cells #[.slice p l c] 42) = W at *
 have LAD := LA W.drew nA
 clear LA
 go_region_held3 (fun x => x.cell? ⟨w.heap.size, 0, none⟩ = some (.slice p l c)) (go_keep) (first
  | (go_at_call 67; refine (DG.mono ?_); rintro e w3 ⟨gt, cap2, rfl, o3, gr3, nb3, u3⟩; have s3 := gr3.cell s2 (fun e => by cases e))
  | (go_at_call 68; refine LAD.mono ?_; rintro e w2 ⟨g, cap, k, vals, rfl, k1, k8, kc, hlt, LR⟩; have b2 : Below W.drew.heap.size W.drew w2 := LR.bel; have s2 := (b2.cell (p := ⟨w.heap.size, 0, none⟩) lB).trans q0; have nA2 := nA.grow (bel' (Below.refl _ _).drew b2); have DG := digits_any k k1 (by omega) p l c A none 0 0 [] w2.heap.size g 0 cap w2 nA2 HP.out rfl (by have : 2 ^ k ≤ 2 ^ 8 := Nat.pow_le_pow_right (by decide) k8; simp; omega) (World.ownsRow_nil _ _ _ _) (Nat.le_refl _) (fun k e => by cases e) LR.ru kc; obtain ⟨K, hK⟩ : ∃ K, 19 * 2 ^ k = K := ⟨_, rfl⟩; rw [hK] at DG; simp only [List.length_nil, Nat.zero_add, List.nil_append] at DG)
  | fail)
 all_goals
  obtain ⟨T, _, _⟩ := Tr.of (l := pd A K) o3 u3
  have cv := run_convert_bytes_arg (P := Tryz.prog) w3 92 5 Tryz.underlying92 Tryz.underlying5 gt 0 K cap2 (pd A K) (pd_len A K) (fun i hi => by rw [Nat.zero_add]; exact T.cel i hi) 9 Tryz.underlying9
  have TL := Tryz.strings_TrimLeft_one (strOfNums (pd A K)) 48 (by decide)
  rw [trim_pd A K (by rw [← hK]; exact nDig_of hlt) (by omega)] at TL
  have bE : Below w.heap.size w w3 := bel' (bel' al (bel' (Below.refl _ _).drew b2)) ⟨gr3.os, gr3.tape, gr3.output, gr3.size, fun j hj => gr3.block j hj (by simp [Value.ownBlock])⟩
  clear T o3 u3 LR DG LAD nA nA2 gr3
  go_wp2_with (first | (go_at_call 69; go_must (refine (TL _).mono ?_; rintro e w4 ⟨rfl, hw⟩; subst w4)) | fail)
  go_ret
  exact ⟨rfl, bE⟩
end Go.Proofs.YtapdhadpdbmkcaaGreatDoor.Wt

namespace Go.Proofs.YtapdhadpdbmkcaaGreatDoor.Mo
open Go.RowKit Fu Tn Go.Lib Wt

theorem two_le {N n : Nat} (h : n < nb N) : 2 ^ n ≤ N := by
 rcases (nb_spec N).2 with s | s
 ·omega
 ·exact Nat.le_trans (Nat.pow_le_pow_right (by decide) (by omega)) s
theorem no_less {N k m n : Nat} (h1 : 2 ^ n ≤ N) (h3 : 10 ^ m ≤ 2 ^ n) (h2 : N < 10 ^ k) : m < k := by
 by_cases c : m < k
 ·exact c
 ·exact absurd (Nat.lt_of_lt_of_le h2 (Nat.le_trans (Nat.pow_le_pow_right (by decide) (by omega)) (Nat.le_trans h3 h1))) (Nat.lt_irrefl _)
theorem ten_two : (10 : Nat) ^ 4096 ≤ 2 ^ 13654 := by decide +kernel
/-- A number that has so many bits has too many digits. -/
theorem long_bits {N : Nat} (h : 13654 < nb N) : 4096 < (decDigits N).length := by
 have h1 := two_le h
 have h2 : N < 10 ^ (decDigits N).length := by
  have := Dc.num_lt (decDigits N) (dec_dg N)
  rwa [dec_num] at this
 exact no_less h1 ten_two h2
theorem Text_any (a : Option Addr) (l c V : Nat) (w : World) (h : Nn w a l c (V : Int)) (hb : nb V ≤ 16000) (G : Gw w) :
  Calls Tryz.prog 34 #[.agg #[.slice a l c]] w fun e w' => e = .returned (.string ⟨(decDigits V).toArray⟩) ∧ Below w.heap.size w w' := by
 by_cases q : V < 18446744073709551616
 ·exact Text_one a l c V w h q G
 ·exact Text_many a l c V w h hb (by omega)
/-- What is written of a fraction, and its error. -/
def wA (g : Bool) (N D : Nat) : (ByteArray × ByteArray) × Int := if (decDigits N).length ≤ 4096 ∧ (decDigits D).length ≤ 4096 then ((sB (sg g (decDigits N)), sB (decDigits D)), 0) else ((⟨#[]⟩, ⟨#[]⟩), 3)
theorem Write_any (g : Bool) (a a' : Option Addr) (l c l' c' N D : Nat) (w : World) (h1 : Nn w a l c (N : Int)) (h2 : Nn w a' l' c' (D : Int)) (b1 : (N : Int) < pw 1000000) (b2 : (D : Int) < pw 1000000) (G : Gw w) :
  Calls Tryz.prog 54 #[.bool g, .agg #[.slice a l c], .agg #[.slice a' l' c']] w fun e w' => e = .returned (.tuple #[.agg #[.string (wA g N D).1.1, .string (wA g N D).1.2], .int .i64 (wA g N D).2]) ∧ Below w.heap.size w w' := by
 have B1 : ∀ x, Below w.heap.size w x → Calls Tryz.prog 89 #[.agg #[.slice a l c]] x fun e w' => e = .returned (.int .i64 (nb N)) ∧ Below x.heap.size x w' := fun x b => BitLen_n (h1.grow b) b1 (Nat.le_refl _)
 have B2 : ∀ x, Below w.heap.size w x → Calls Tryz.prog 89 #[.agg #[.slice a' l' c']] x fun e w' => e = .returned (.int .i64 (nb D)) ∧ Below x.heap.size x w' := fun x b => BitLen_n (h2.grow b) b2 (Nat.le_refl _)
 have LO : ∀ (P : Prop), ¬ ((decDigits N).length ≤ 4096 ∧ (decDigits D).length ≤ 4096) → (wA g N D = ((⟨#[]⟩, ⟨#[]⟩), 3) → P) → P := fun P h q => q (by unfold wA; rw [if_neg h])
 by_cases q1 : 13654 < nb N
 ·refine LO _ (fun h => by have := long_bits q1; omega) (fun e => ?_)
  rw [e]
  exact Write_big1 g a a' l c l' c' _ w (by omega) B1
 ·by_cases q2 : 13654 < nb D
  ·refine LO _ (fun h => by have := long_bits q2; omega) (fun e => ?_)
   rw [e]
   exact Write_big2 g a a' l c l' c' _ _ w (by omega) (by omega) B1 B2
  ·have T1 := fun x (b : Below w.heap.size w x) => Text_any a l c N x (h1.grow b) (by omega) (G.grow b)
   have T2 := fun x (b : Below w.heap.size w x) => Text_any a' l' c' D x (h2.grow b) (by omega) (G.grow b)
   have z1 : ByteArray.size ⟨(decDigits N).toArray⟩ = (decDigits N).length := sB_size _
   have z2 : ByteArray.size ⟨(decDigits D).toArray⟩ = (decDigits D).length := sB_size _
   by_cases q3 : 4096 < (decDigits N).length
   ·refine LO _ (fun h => by omega) (fun e => ?_)
    rw [e]
    exact Write_many1 g a a' l c l' c' _ _ _ _ w (by omega) (by omega) (by rw [z1]; exact q3) T1 T2 B1 B2
   ·by_cases q4 : 4096 < (decDigits D).length
    ·refine LO _ (fun h => by omega) (fun e => ?_)
     rw [e]
     exact Write_many2 g a a' l c l' c' _ _ _ _ w (by omega) (by omega) (by rw [z1]; omega) (by rw [z2]; exact q4) T1 T2 B1 B2
    ·have e : wA g N D = ((sB (sg g (decDigits N)), sB (decDigits D)), 0) := by unfold wA; rw [if_pos ⟨by omega, by omega⟩]
     rw [e]
     exact Write_walk g a a' l c l' c' _ _ _ _ _ w (by omega) (by omega) (by show ByteArray.size ⟨(decDigits N).toArray⟩ ≤ 4096; rw [z1]; omega) (by show ByteArray.size ⟨(decDigits D).toArray⟩ ≤ 4096; rw [z2]; omega) T1 T2 B1 B2 (fun y => WSign_any _ _ y (by omega))
set_option maxRecDepth 100000 in
set_option maxHeartbeats 800000 in
theorem Ratio_walk (g : Bool) (a a' : Option Addr) (l c l' c' : Nat) (s t : ByteArray) (er : Int) (w : World)
  (WR : ∀ x, Below w.heap.size w x → Calls Tryz.prog 54 #[.bool g, .agg #[.slice a l c], .agg #[.slice a' l' c']] x fun e w' => e = .returned (.tuple #[.agg #[.string s, .string t], .int .i64 er]) ∧ Below x.heap.size x w') :
  Calls Tryz.prog 22 #[.agg #[.bool g, .slice a l c, .slice a' l' c']] w fun e w' => e = .returned (.tuple #[.agg #[.string s, .string t], .int .i64 er]) ∧ Below w.heap.size w w' := by
 have K0 := (Rb.new w (.bool g) (.slice a l c) (.slice a' l' c') 44).alloc (.cells #[.string ⟨#[]⟩, .string ⟨#[]⟩] 23)
 have KR := Blk.new (w.alloc (.cells #[.bool g, .slice a l c, .slice a' l' c'] 44)) #[.string ⟨#[]⟩, .string ⟨#[]⟩] 23
 simp only [World.size_alloc] at KR
 have pr : Below w.heap.size w ((w.alloc (.cells #[.bool g, .slice a l c, .slice a' l' c'] 44)).alloc (.cells #[.string ⟨#[]⟩, .string ⟨#[]⟩] 23)) := ((Below.refl _ _).alloc (Nat.le_refl _) _).alloc (by simp) _
 have c0 := K0.c0
 have c1 := K0.c1
 have c2 := K0.c2
 go_enter Tryz.func22, Tryz.ntmps22
 go_wp2_with (first
  | (go_at_call 54; refine (WR _ pr).mono ?_; rintro e w1 ⟨rfl, b1⟩; have p1 := bel' pr b1; have KR1 := KR.below b1 KR.lt; have kr0 := KR1.at 0; have kr1 := KR1.at 1; have kf0 := KR1.free 0; have kf1 := KR1.free 1; simp at kr0 kr1)
  | fail)
 have KE := bput (bput KR1 0 (.string s)) 1 (.string t)
 have bE := (p1.setCell (p := ⟨w.heap.size + 1, 0, none⟩) (show w.heap.size ≤ w.heap.size + 1 by omega) (.string s)).setCell (p := ⟨w.heap.size + 1, 1, none⟩) (show w.heap.size ≤ w.heap.size + 1 by omega) (.string t)
 generalize (w1.setCell ⟨w.heap.size + 1, 0, none⟩ (.string s)).setCell ⟨w.heap.size + 1, 1, none⟩ (.string t) = WE at *
 have z0 := KE.at 0
 have z1 := KE.at 1
 simp at z0 z1
 exact bodyPost_ret (v := .tuple #[.agg #[.string s, .string t], .int .i64 er]) (by simp [results, Tryz.results22, go_sem, z0, z1]) rfl ⟨rfl, bE⟩
/-- What is told of an exact number: as it is written, or that it is too long. -/
def wrA (r : Rat) : Value × Int := (.agg #[.string (wA (decide (r.num < 0)) r.num.natAbs r.den).1.1, .string (wA (decide (r.num < 0)) r.num.natAbs r.den).1.2], (wA (decide (r.num < 0)) r.num.natAbs r.den).2)
theorem wrA_short {r : Rat} (h1 : (decDigits r.num.natAbs).length ≤ 4096) (h2 : (decDigits r.den).length ≤ 4096) : wrA r = (wrt r, 0) := by
 unfold wrA wA wrt
 rw [if_pos ⟨h1, h2⟩]
theorem wrA_long {r : Rat} (h : ¬ ((decDigits r.num.natAbs).length ≤ 4096 ∧ (decDigits r.den).length ≤ 4096)) : wrA r = (.agg #[.string ⟨#[]⟩, .string ⟨#[]⟩], 3) := by
 unfold wrA wA
 rw [if_neg h]
/-- Ratio of any fraction of at most a million words. -/
theorem Ratio_any (v : Value) (r : Rat) (w : World) (h : PF w v r) (hs : PS r 1000000) (G : Gw w) :
  Calls Tryz.prog 22 #[v] w fun e w' => e = .returned (.tuple #[(wrA r).1, .int .i64 (wrA r).2]) ∧ Below w.heap.size w w' := by
 obtain ⟨a, l, c, a', l', c', rfl, k1, k2⟩ := h
 exact Ratio_walk _ a a' l c l' c' _ _ _ w (fun x b => Write_any _ a a' l c l' c' _ _ x (k1.grow b) (k2.grow b) hs.1 hs.2 (G.grow b))
end Go.Proofs.YtapdhadpdbmkcaaGreatDoor.Mo

namespace Go.Proofs.YtapdhadpdbmkcaaGreatDoor.Mo
open Go.RowKit Fu Tn Go.Lib Dc

/-- Digits without noughts ahead are the digits of their number. -/
theorem dec_of_digits (n : Nat) : ∀ l : List UInt8, l.length = n → (∀ c ∈ l, Dc.Dg c) → l ≠ [] → (l.length = 1 ∨ ∀ c, l.head? = some c → c.toNat ≠ 48) → decDigits (Dc.num l) = l := by
 induction n with
 | zero => intro l hl _ ne; exact absurd (List.length_eq_zero_iff.1 hl) ne
 | succ n ih =>
  intro l hl hd ne h0
  obtain ⟨m, c, rfl⟩ : ∃ m c, l = m ++ [c] := ⟨l.dropLast, l.getLast ne, (List.dropLast_concat_getLast ne).symm⟩
  have hc : Dc.Dg c := hd c (by simp)
  unfold Dc.Dg at hc
  have e48 : UInt8.ofNat (48 + (c.toNat - 48)) = c := by
   apply UInt8.toNat_inj.1
   rw [b48 (by omega)]; omega
  rw [List.length_append, List.length_singleton] at hl
  by_cases me : m = []
  ·subst me
   rw [List.nil_append, Dc.num_single, decDigits, dif_pos (by omega), e48]
  ·have hh : ∀ c', m.head? = some c' → c'.toNat ≠ 48 := by
    intro c' e
    rcases h0 with h0 | h0
    ·rw [List.length_append, List.length_singleton] at h0
     exact absurd (List.length_eq_zero_iff.1 (show m.length = 0 by omega)) me
    ·exact h0 c' (by rw [List.head?_append, e]; rfl)
   have i := ih m (by omega) (fun c' h => hd c' (by simp [h])) me (Or.inr hh)
   have pos : 0 < Dc.num m := by
    obtain ⟨a, t, rfl⟩ := List.exists_cons_of_ne_nil me
    have ha := hd a (by simp)
    unfold Dc.Dg at ha
    have := hh a rfl
    rw [Dc.num_cons]
    have p10 : 0 < 10 ^ t.length := Nat.pow_pos (by decide)
    have := Nat.mul_pos (show 0 < a.toNat - 48 by omega) p10
    omega
   rw [Dc.num_append, Dc.num_single, List.length_singleton, Nat.pow_one]
   rw [decDigits, dif_neg (by omega)]
   rw [show (Dc.num m * 10 + (c.toNat - 48)) / 10 = Dc.num m by omega, show (Dc.num m * 10 + (c.toNat - 48)) % 10 = c.toNat - 48 by omega, i, e48]
theorem sB_data (s : ByteArray) : sB s.data.toList = s := by
 apply ByteArray.ext
 simp [sB]
theorem nat_text {s : ByteArray} (h : natB s = true) : sB (decDigits (Dc.num s.data.toList)) = s := by
 have hd := natB_dg h
 unfold natB at h
 rw [Bool.and_eq_true, Bool.and_eq_true, decide_eq_true_iff, Bool.or_eq_true, decide_eq_true_iff] at h
 obtain ⟨⟨_, h1⟩, h2⟩ := h
 have hl : s.data.toList.length = s.size := by simp
 rw [dec_of_digits _ s.data.toList rfl hd (by intro e; rw [e] at hl; simp at hl; omega) ?_, sB_data]
 rcases h2 with h2 | h2
 ·left; omega
 ·right
  intro c e
  rw [bt_in h1] at h2
  simp only [Bool.not_eq_true', decide_eq_false_iff_not] at h2
  have : s[0] = c := by
   have q : s.data.toList[0]? = some c := by rw [← List.head?_eq_getElem?]; exact e
   rw [List.getElem?_eq_getElem (by omega)] at q
   exact Option.some.inj q
  rw [← this]; exact h2
theorem neg_rest (s : ByteArray) : sB (sg (neg s) (rest s).data.toList) = s := by
 unfold rest sg
 cases h : neg s with
 | false => simp [sB_data]
 | true =>
  unfold neg at h
  rw [decide_eq_true_iff] at h
  have h1 : 0 < s.size := by
   by_cases c : 0 < s.size
   ·exact c
   ·rw [bt_out (by omega)] at h; simp at h
  rw [bt_in h1] at h
  simp only [if_true]
  apply ByteArray.ext
  apply Array.ext'
  rw [ByteArray.data_extract]
  simp only [sB, Array.toList_extract, List.extract_eq_take_drop]
  have hl : s.data.toList.length = s.size := by simp
  have e : s.data.toList = s[0] :: s.data.toList.drop 1 := by
   rcases q : s.data.toList with _ | ⟨a, t⟩
   ·rw [q] at hl; simp at hl; omega
   ·have : s[0] = a := by
     have : s.data.toList[0]? = some a := by rw [q]; rfl
     rw [List.getElem?_eq_getElem (by omega)] at this
     exact Option.some.inj this
    simp [this]
  have e45 : s[0] = 45 := UInt8.toNat_inj.1 h
  rw [List.take_of_length_le (by rw [List.length_drop]; omega)]
  rw [e45] at e
  simpa using e.symm
/-- What is right is written so. -/
theorem good_wrt {n d : ByteArray} (h : goodE n d = 0) : ∃ r : Rat, (.agg #[.string n, .string d] : Value) = wrt r ∧ (decDigits r.num.natAbs).length ≤ n.size ∧ (decDigits r.den).length = d.size ∧ (decDigits r.num.natAbs).length ≤ 4096 ∧ (decDigits r.den).length ≤ 4096 := by
 unfold goodE at h
 rcases hs : shB n d with _ | _
 ·rw [hs] at h; simp at h
 rw [hs] at h
 simp only [Bool.true_eq_false, if_false] at h
 by_cases hl : 4096 < (rest n).size ∨ 4096 < d.size
 ·rw [if_pos hl] at h; simp at h
 rw [if_neg hl] at h
 by_cases hg : Int.gcd (Dc.num (rest n).data.toList : Int) (Dc.num d.data.toList : Int) ≠ 1
 ·rw [if_pos hg] at h; simp at h
 simp only [Classical.not_not] at hg
 have hs' := hs
 unfold shB at hs'
 rw [Bool.and_eq_true, Bool.and_eq_true, Bool.and_eq_true, Bool.not_eq_true', Bool.not_eq_true'] at hs'
 obtain ⟨⟨⟨a1, a2⟩, a3⟩, a4⟩ := hs'
 have a1' := a1
 unfold whB at a1'
 rw [Bool.and_eq_true, Bool.not_eq_true'] at a1'
 have t1 := nat_text a1'.1
 have t2 := nat_text a2
 have hN := neg_rest n
 have hr := rest_size n
 obtain ⟨N, eN⟩ : ∃ N, Dc.num (rest n).data.toList = N := ⟨_, rfl⟩
 obtain ⟨D, eD⟩ : ∃ D, Dc.num d.data.toList = D := ⟨_, rfl⟩
 rw [eN] at t1 hg
 rw [eD] at t2 hg
 have l1 : (decDigits N).length = (rest n).size := by rw [← t1, sB_size]
 have l2 : (decDigits D).length = d.size := by rw [← t2, sB_size]
 have D0 : D ≠ 0 := by
  rintro rfl
  rw [← t2, dec_is0] at a3
  simp at a3
 have hco : Nat.Coprime N D := by
  unfold Nat.Coprime
  simpa [Int.gcd] using hg
 have nz : neg n = true → N ≠ 0 := by
  rintro h1 rfl
  have := a1'.2
  rw [h1, ← t1, dec_is0] at this
  simp at this
 refine ⟨⟨if neg n then -(N : Int) else N, D, D0, ?_⟩, ?_, ?_, ?_, ?_, ?_⟩
 ·split <;> simpa using hco
 ·have e1 : (if neg n = true then -(N : Int) else (N : Int)).natAbs = N := by split <;> simp
  have e2 : decide ((if neg n = true then -(N : Int) else (N : Int)) < 0) = neg n := by
   cases hn : neg n with
   | false => simp
   | true => have := nz hn; simp; omega
  unfold wrt
  simp only [e1, e2]
  rw [t2]
  have : (rest n).data.toList = decDigits N := by rw [← t1, sB_list]
  rw [← this, hN]
 all_goals
  have e1 : (if neg n = true then -(N : Int) else (N : Int)).natAbs = N := by split <;> simp
  simp only [e1]
  omega
theorem ten300 : (10 : Nat) ^ 300 ≤ 2 ^ (64 * 16) := by decide +kernel
theorem pw_two (n : Nat) : pw n = ((2 ^ (64 * n) : Nat) : Int) := by
 induction n with
 | zero => rfl
 | succ n ih =>
  have e1 : pw 1 = ((2 ^ 64 : Nat) : Int) := by decide
  rw [pw_add, ih, e1, ← Int.natCast_mul, ← Nat.pow_add, Nat.mul_add]
theorem lt_of_len {N L k B : Nat} (h : N < 10 ^ L) (hL : L ≤ k) (hB : 10 ^ k ≤ B) : N < B := Nat.lt_of_lt_of_le h (Nat.le_trans (Nat.pow_le_pow_right (by decide) hL) hB)
theorem few_words {N : Nat} (h : (decDigits N).length ≤ 300) : (N : Int) < pw 16 := by
 have h2 : N < 10 ^ (decDigits N).length := by
  have := Dc.num_lt (decDigits N) (dec_dg N)
  rwa [dec_num] at this
 rw [pw_two]
 exact Int.ofNat_lt.2 (lt_of_len h2 h ten300)
theorem two_ten : (2 : Nat) ^ (64 * 200) < 10 ^ 4095 := by decide +kernel
theorem ten_le_of_digits (N : Nat) : 0 < N → 10 ^ ((decDigits N).length - 1) ≤ N := by
 intro h
 obtain ⟨c, t, e, _, h2⟩ := dec_cons N
 have hd := dec_dg N c (by rw [e]; exact List.mem_cons_self)
 unfold Dc.Dg at hd
 have := h2 h
 have q := dec_num N
 rw [e, Dc.num_cons] at q
 rw [e, List.length_cons, Nat.add_sub_cancel]
 have := Nat.mul_le_mul_right (10 ^ t.length) (show 1 ≤ c.toNat - 48 by omega)
 omega
theorem len_of_lt' {N L k B : Nat} (h : 10 ^ (L - 1) ≤ N) (hN : N < B) (hB : B < 10 ^ k) : L ≤ k + 1 := by
 by_cases c : L ≤ k + 1
 ·exact c
 ·exact absurd (Nat.lt_of_lt_of_le (Nat.lt_trans hN hB) (Nat.le_trans (Nat.pow_le_pow_right (by decide) (show k ≤ L - 1 by omega)) h)) (Nat.lt_irrefl _)
theorem short_words {N m : Nat} (h : (N : Int) < pw m) (hm : m ≤ 200) : (decDigits N).length ≤ 4096 := by
 by_cases z : N = 0
 ·subst z
  rw [decDigits]
  simp
 ·have h1 := ten_le_of_digits N (by omega)
  have h3 : (N : Int) < pw 200 := Int.lt_of_lt_of_le h (pw_mono hm)
  rw [pw_two] at h3
  exact len_of_lt' h1 (Int.ofNat_lt.1 h3) two_ten
theorem PS.short {r : Rat} {m : Nat} (h : PS r m) (hm : m ≤ 200) : wrA r = (wrt r, 0) := wrA_short (short_words h.1 hm) (short_words h.2 hm)
theorem PS.mul {r s : Rat} {m n : Nat} (h : PS r m) (k : PS s n) : PS (r * s) (m + n) := by
 obtain ⟨t1, t2, _⟩ := times_low r s _ _ rfl rfl
 have d1 := den_p r
 have d2 := den_p s
 have ge0 : ∀ a : Nat, (0 : Int) ≤ (a : Int) := fun a => by omega
 have q : ∀ (a g b g' : Nat) , (a : Int) < pw m → (b : Int) < pw n → (a : Int) / (g : Int) * ((b : Int) / (g' : Int)) < pw (m + n) := fun a g b g' ha hb => by
  have x1 := Int.ediv_le_self (g : Int) (ge0 a)
  have x2 := Int.ediv_le_self (g' : Int) (ge0 b)
  have y1 : 0 ≤ (a : Int) / (g : Int) := Int.ediv_nonneg (ge0 a) (ge0 g)
  have y2 : 0 ≤ (b : Int) / (g' : Int) := Int.ediv_nonneg (ge0 b) (ge0 g')
  have z1 := Int.mul_le_mul x1 x2 y2 (ge0 a)
  rw [pw_add]
  have z2 := Int.mul_lt_mul' (Int.le_of_lt ha) hb (ge0 b) (pw_pos m)
  omega
 exact ⟨by rw [t1]; exact q _ _ _ _ h.1 k.1, by rw [t2]; exact q _ _ _ _ h.2 k.2⟩
theorem PS.add {r s : Rat} {m n : Nat} (h : PS r m) (k : PS s n) : PS (r + s) (m + n + 1) := by
 obtain ⟨G, hG⟩ : ∃ G, r.den.gcd s.den = G := ⟨_, rfl⟩
 obtain ⟨Z, hZ⟩ : ∃ Z, r.num * ((s.den : Int) / (G : Int)) + s.num * ((r.den : Int) / (G : Int)) = Z := ⟨_, rfl⟩
 obtain ⟨L, hL⟩ : ∃ L, Z.natAbs.gcd G = L := ⟨_, rfl⟩
 obtain ⟨t1, t2, _⟩ := plus_low r s Z G L hG hZ hL
 have ge0 : ∀ a : Nat, (0 : Int) ≤ (a : Int) := fun a => by omega
 have e : pw (m + n + 1) = pw (m + n) * pw 1 := pw_add _ _
 have e1 : pw 1 = 18446744073709551616 := by decide
 have pp := pw_pos (m + n)
 have x1 := Int.ediv_le_self (G : Int) (ge0 r.den)
 have x2 := Int.ediv_le_self (G : Int) (ge0 s.den)
 have x3 := Int.ediv_le_self (L : Int) (ge0 s.den)
 have y1 : 0 ≤ (r.den : Int) / (G : Int) := Int.ediv_nonneg (ge0 _) (ge0 _)
 have y2 : 0 ≤ (s.den : Int) / (G : Int) := Int.ediv_nonneg (ge0 _) (ge0 _)
 have y3 : 0 ≤ (s.den : Int) / (L : Int) := Int.ediv_nonneg (ge0 _) (ge0 _)
 have q : ∀ a b : Int, 0 ≤ a → 0 ≤ b → a < pw m → b < pw n → a * b < pw (m + n) := fun a b a0 b0 ha hb => by
  rw [pw_add]
  exact Int.mul_lt_mul' (Int.le_of_lt ha) hb b0 (pw_pos m)
 have u1 := q r.num.natAbs ((s.den : Int) / (G : Int)) (ge0 _) y2 h.1 (by have := k.2; omega)
 have u2 := q ((r.den : Int) / (G : Int)) s.num.natAbs y1 (ge0 _) (by have := h.2; omega) k.1
 have u3 := q ((r.den : Int) / (G : Int)) ((s.den : Int) / (L : Int)) y1 y3 (by have := h.2; omega) (by have := k.2; omega)
 refine ⟨?_, ?_⟩
 ·rw [t1]
  have a1 : (Z.natAbs : Int) ≤ (r.num.natAbs : Int) * ((s.den : Int) / (G : Int)) + ((r.den : Int) / (G : Int)) * (s.num.natAbs : Int) := by
   rw [← hZ]
   have b1 : ((r.num * ((s.den : Int) / (G : Int))).natAbs : Int) = (r.num.natAbs : Int) * ((s.den : Int) / (G : Int)) := by
    rw [Int.natAbs_mul, Int.natCast_mul, Int.natAbs_of_nonneg y2]
   have b2 : ((s.num * ((r.den : Int) / (G : Int))).natAbs : Int) = ((r.den : Int) / (G : Int)) * (s.num.natAbs : Int) := by
    rw [Int.natAbs_mul, Int.natCast_mul, Int.mul_comm, Int.natAbs_of_nonneg y1]
   rw [← b1, ← b2]
   omega
  have a2 := Int.ediv_le_self (L : Int) (ge0 Z.natAbs)
  rw [e, e1]
  omega
 ·rw [t2, e, e1]
  omega
theorem PS.neg {r : Rat} {m : Nat} (h : PS r m) : PS (-r) m := by
 unfold PS at *
 rw [Rat.neg_num, Rat.neg_den, Int.natAbs_neg]
 exact h
theorem PS.inv {r : Rat} {m : Nat} (h : PS r m) (h0 : r ≠ 0) : PS r⁻¹ m := by
 obtain ⟨_, i2, i3⟩ := inv_num r h0
 unfold PS at *
 rw [i2, i3]
 exact ⟨h.2, h.1⟩
end Go.Proofs.YtapdhadpdbmkcaaGreatDoor.Mo
