import Derived.Test.YtiobnojcmeeikaaGreatDoorPart41
import Derived.Test.YtiobnojcmeeikaaGreatDoorPart39
import Derived.Test.YtiobnojcmeeikaaGreatDoorPart43
import Derived.Test.YtiobnojcmeeikaaGreatDoorShelf
import Derived.Test.YtiobnojcmeeikaaGreatDoorPart40
import Derived.Test.YtiobnojcmeeikaaGreatDoorPart22
import Derived.Lib.SmallJoins

namespace Go.Proofs.YtiobnojcmeeikaaGreatDoor.Wt
open Go.RowKit Tn Mo Go.Lib

theorem drop_lead {a b : List UInt8} {c : UInt8} {t : List UInt8} (h1 : ∀ x ∈ a, x = 48) (h2 : b = c :: t) (h3 : c.toNat ≠ 48) : (a ++ b).dropWhile (· == 48) = b := by
  induction a with
  | nil =>
    subst h2
    have : (c == 48) = false := by
      rw [beq_eq_false_iff_ne]
      rintro rfl
      exact h3 rfl
    simp [this]
  | cons x a ih =>
    obtain rfl := h1 x (by simp)
    rw [List.cons_append, List.dropWhile_cons]
    simp only [beq_self_eq_true, if_true]
    exact ih (fun x hx => h1 x (by simp [hx]))
theorem str_list (xs : List Int) : (strOfNums xs).data.toList = xs.map fun n => UInt8.ofNat n.toNat := by simp [strOfNums]
theorem trim_pd (V N : Nat) (h : nDigits V ≤ N) (h0 : 0 < V) : trimLeftB (strOfNums (pd V N)).data.toList 48 = decDigits V := by
  have e : pd V N = Dc.dgs V N N := rfl
  have hs := congrArg (fun s : ByteArray => s.data.toList) (Dc.dgs_str V N h)
  simp only [str_list] at hs
  rw [e, str_list]
  unfold trimLeftB
  rw [← List.take_append_drop (N - nDigits V) (Dc.dgs V N N), List.map_append, hs]
  obtain ⟨c, t, ec, _, hc⟩ := dec_cons V
  refine drop_lead (fun x hx => ?_) ec (hc h0)
  obtain ⟨n, hn, rfl⟩ := List.mem_map.1 hx
  obtain ⟨i, hi⟩ := List.getElem?_of_mem hn
  have hl : i < N - nDigits V := by
    by_cases q : i < N - nDigits V
    · exact q
    · rw [List.getElem?_eq_none (by rw [List.length_take]; omega)] at hi; cases hi
  rw [List.getElem?_take, if_pos hl] at hi
  have g := Dc.dgs_at V N N i (by omega)
  rw [List.getD_eq_getElem?_getD, hi] at g
  simp only [Option.getD_some] at g
  rw [g, Dc.high_digit V (N - 1 - i) (by omega)]
  rfl
theorem Lr.ru {w wr : World} {g cap k : Nat} {vals : List Value} (h : Lr w wr g cap k vals) : Ru wr wr.heap.size g 0 k := by
  refine ⟨h.R.lt, fun i hi => ?_⟩
  obtain ⟨a, l, c, e, n⟩ := h.v i hi
  refine ⟨a, l, c, by rw [Nat.zero_add]; exact h.R.at e, n, fun ad ea => ?_⟩
  obtain ⟨xs, ⟨hW, a1, c1, e1, _, _, h3⟩, _, hv⟩ := n
  have pos : 0 < xs.length := by
    by_cases q : 0 < xs.length
    · exact q
    · have : xs = [] := List.eq_nil_of_length_eq_zero (by omega)
      subst this
      have := rung_pos i
      have z : val [] = 0 := rfl
      rw [z] at hv
      omega
  obtain ⟨b, o, e2, q⟩ := h3 pos
  simp only [Value.slice.injEq] at e1
  rw [e1.1, e2] at ea
  cases ea
  exact lt_of_cell (q 0 pos)
end Go.Proofs.YtiobnojcmeeikaaGreatDoor.Wt

namespace Go.Proofs.YtiobnojcmeeikaaGreatDoor.Wt
open Go.RowKit Tn Mo Go.Lib

theorem nDig_of {V k : Nat} (h : V < rung k) : nDigits V ≤ 19 * 2 ^ k := by
  refine Dc.nDigits_le (Nat.mul_pos (by decide) (Nat.pow_pos (by decide))) ?_
  rw [ten_pow]
  exact h
theorem nb_pw {A n : Nat} (h : nb A ≤ 64 * n) : (A : Int) < pw n := by
  rw [pw_two]
  exact lt_cast (Nat.lt_of_lt_of_le (nb_spec A).1 (Nat.pow_le_pow_right (by decide) h))
set_option maxRecDepth 100000 in
set_option maxHeartbeats 3200000 in
/-- Text of a number of two words and more, of at most thirty-two thousand bits. -/
theorem Text_many (p : Option Addr) (l c A : Nat) (w : World) (hA : Nn w p l c (A : Int)) (hb : nb A ≤ 32000) (h2 : 18446744073709551616 ≤ A) :
    Calls Tryz.prog 48 #[.agg #[.slice p l c]] w fun e w' => e = .returned (.string ⟨(decDigits A).toArray⟩) ∧ Below w.heap.size w w' := by
  have hAp : (A : Int) < pw 1000000 := nb_pw (by omega)
  have hl : 2 ≤ l := by
    obtain ⟨xs, ⟨hW, a1, c1, e, _⟩, n, hv⟩ := hA
    simp only [Value.slice.injEq] at e
    rw [e.2.1]
    by_cases q : 2 ≤ xs.length
    · exact q
    · exfalso
      have v1 := val_lt hW
      have := pw_mono (show xs.length ≤ 1 by omega)
      have p1 : pw 1 = 18446744073709551616 := by decide
      omega
  have hlm : (l : Int) ≤ 9223372036854775807 := by
    obtain ⟨xs, ⟨hW, a1, c1, e, h3, h4, _⟩, n, hv⟩ := hA
    simp only [Value.slice.injEq] at e
    unfold maxLen at h4
    omega
  have hl' : ¬ (l : Int) ≤ 1 := by omega
  have B0 := Bx.new w (.slice p l c) 56
  have al := (Below.refl w.heap.size w).alloc (Nat.le_refl _) (.cells #[.slice p l c] 56)
  have nA := hA.grow al
  have q0 := B0.1
  have lB := B0.lt
  have LA := fun (x : World) (h : Nn x p l c (A : Int)) => ladder_any p l c A x h hb hAp
  have HP : Hid ((A : Int) < pw 1000000) := hAp
  clear hAp hA
  go_enter Tryz.func48, Tryz.ntmps48
  go_wp2_with fail
  generalize w.alloc (.cells #[.slice p l c] 56) = W at *
  have LAD := LA W.drew nA
  clear LA
  go_region_held3 (fun x => x.cell? ⟨w.heap.size, 0, none⟩ = some (.slice p l c)) (go_keep) (first
    | (go_at_call 60; refine (DG.mono ?_); rintro e w3 ⟨gt, cap2, rfl, o3, gr3, nb3, u3⟩; have s3 := gr3.cell s2 (fun e => by cases e))
    | (go_at_call 61; refine LAD.mono ?_; rintro e w2 ⟨g, cap, k, vals, rfl, k1, k8, kc, hlt, LR⟩; have b2 : Below W.drew.heap.size W.drew w2 := LR.bel; have s2 := (b2.cell (p := ⟨w.heap.size, 0, none⟩) lB).trans q0; have nA2 := nA.grow (bel' (Below.refl _ _).drew b2); have DG := digits_any k k1 (by omega) p l c A none 0 0 [] w2.heap.size g 0 cap w2 nA2 HP.out rfl (by have : 2 ^ k ≤ 2 ^ 9 := Nat.pow_le_pow_right (by decide) k8; simp; omega) (World.ownsRow_nil _ _ _ _) (Nat.le_refl _) (fun k e => by cases e) LR.ru kc; obtain ⟨K, hK⟩ : ∃ K, 19 * 2 ^ k = K := ⟨_, rfl⟩; rw [hK] at DG; simp only [List.length_nil, Nat.zero_add, List.nil_append] at DG)
    | fail)
  all_goals
    obtain ⟨T, _, _⟩ := Tr.of (l := pd A K) o3 u3
    have cv := run_convert_bytes_arg (P := Tryz.prog) w3 81 5 Tryz.underlying81 Tryz.underlying5 gt 0 K cap2 (pd A K) (pd_len A K) (fun i hi => by rw [Nat.zero_add]; exact T.cel i hi) 9 Tryz.underlying9
    have TL := Tryz.strings_TrimLeft_one (strOfNums (pd A K)) 48 (by decide)
    rw [trim_pd A K (by rw [← hK]; exact nDig_of hlt) (by omega)] at TL
    have bE : Below w.heap.size w w3 := bel' (bel' al (bel' (Below.refl _ _).drew b2)) ⟨gr3.os, gr3.tape, gr3.output, gr3.size, fun j hj => gr3.block j hj (by simp [Value.ownBlock])⟩
    clear T o3 u3 LR DG LAD nA nA2 gr3
    go_wp2_with (first | (go_at_call 62; go_must (refine (TL _).mono ?_; rintro e w4 ⟨rfl, hw⟩; subst w4)) | fail)
    go_ret
    exact ⟨rfl, bE⟩
end Go.Proofs.YtiobnojcmeeikaaGreatDoor.Wt

namespace Go.Proofs.YtiobnojcmeeikaaGreatDoor.Mo
open Go.RowKit Fu Tn Go.Lib Wt

theorem two_le {N n : Nat} (h : n < nb N) : 2 ^ n ≤ N := by
  rcases (nb_spec N).2 with s | s
  · omega
  · exact Nat.le_trans (Nat.pow_le_pow_right (by decide) (by omega)) s
theorem no_less {N k m n : Nat} (h1 : 2 ^ n ≤ N) (h3 : 10 ^ m ≤ 2 ^ n) (h2 : N < 10 ^ k) : m < k := by
  by_cases c : m < k
  · exact c
  · exact absurd (Nat.lt_of_lt_of_le h2 (Nat.le_trans (Nat.pow_le_pow_right (by decide) (by omega)) (Nat.le_trans h3 h1))) (Nat.lt_irrefl _)
theorem ten_two : (10 : Nat) ^ 4096 ≤ 2 ^ 13654 := by decide +kernel
/-- A number that has so many bits has too many digits. -/
theorem long_bits {N : Nat} (h : 13654 < nb N) : 4096 < (decDigits N).length := by
  have h1 := two_le h
  have h2 : N < 10 ^ (decDigits N).length := by
    have := Dc.num_lt (decDigits N) (dec_dg N)
    rwa [dec_num] at this
  exact no_less h1 ten_two h2
theorem Text_any (a : Option Addr) (l c V : Nat) (w : World) (h : Nn w a l c (V : Int)) (hb : nb V ≤ 32000) (G : Gw w) :
    Calls Tryz.prog 48 #[.agg #[.slice a l c]] w fun e w' => e = .returned (.string ⟨(decDigits V).toArray⟩) ∧ Below w.heap.size w w' := by
  by_cases q : V < 18446744073709551616
  · exact Text_one a l c V w h q G
  · exact Text_many a l c V w h hb (by omega)
/-- What is written of a fraction, and its error. -/
def wA (g : Bool) (N D : Nat) : (ByteArray × ByteArray) × Int := if (decDigits N).length ≤ 4096 ∧ (decDigits D).length ≤ 4096 then ((sB (sg g (decDigits N)), sB (decDigits D)), 0) else ((⟨#[]⟩, ⟨#[]⟩), 3)
theorem Write_any (g : Bool) (a a' : Option Addr) (l c l' c' N D : Nat) (w : World) (h1 : Nn w a l c (N : Int)) (h2 : Nn w a' l' c' (D : Int)) (b1 : (N : Int) < pw 1000000) (b2 : (D : Int) < pw 1000000) (G : Gw w) :
    Calls Tryz.prog 33 #[.bool g, .agg #[.slice a l c], .agg #[.slice a' l' c']] w fun e w' => e = .returned (.tuple #[.agg #[.string (wA g N D).1.1, .string (wA g N D).1.2], .int .i64 (wA g N D).2]) ∧ Below w.heap.size w w' := by
  have B1 : ∀ x, Below w.heap.size w x → Calls Tryz.prog 47 #[.agg #[.slice a l c]] x fun e w' => e = .returned (.int .i64 (nb N)) ∧ Below x.heap.size x w' := fun x b => BitLen_n (h1.grow b) b1 (Nat.le_refl _)
  have B2 : ∀ x, Below w.heap.size w x → Calls Tryz.prog 47 #[.agg #[.slice a' l' c']] x fun e w' => e = .returned (.int .i64 (nb D)) ∧ Below x.heap.size x w' := fun x b => BitLen_n (h2.grow b) b2 (Nat.le_refl _)
  have LO : ∀ (P : Prop), ¬ ((decDigits N).length ≤ 4096 ∧ (decDigits D).length ≤ 4096) → (wA g N D = ((⟨#[]⟩, ⟨#[]⟩), 3) → P) → P := fun P h q => q (by unfold wA; rw [if_neg h])
  by_cases q1 : 13654 < nb N
  · refine LO _ (fun h => by have := long_bits q1; omega) (fun e => ?_)
    rw [e]
    exact Write_big1 g a a' l c l' c' _ w (by omega) B1
  · by_cases q2 : 13654 < nb D
    · refine LO _ (fun h => by have := long_bits q2; omega) (fun e => ?_)
      rw [e]
      exact Write_big2 g a a' l c l' c' _ _ w (by omega) (by omega) B1 B2
    · have T1 := fun x (b : Below w.heap.size w x) => Text_any a l c N x (h1.grow b) (by omega) (G.grow b)
      have T2 := fun x (b : Below w.heap.size w x) => Text_any a' l' c' D x (h2.grow b) (by omega) (G.grow b)
      have z1 : ByteArray.size ⟨(decDigits N).toArray⟩ = (decDigits N).length := sB_size _
      have z2 : ByteArray.size ⟨(decDigits D).toArray⟩ = (decDigits D).length := sB_size _
      by_cases q3 : 4096 < (decDigits N).length
      · refine LO _ (fun h => by omega) (fun e => ?_)
        rw [e]
        exact Write_many1 g a a' l c l' c' _ _ _ _ w (by omega) (by omega) (by rw [z1]; exact q3) T1 T2 B1 B2
      · by_cases q4 : 4096 < (decDigits D).length
        · refine LO _ (fun h => by omega) (fun e => ?_)
          rw [e]
          exact Write_many2 g a a' l c l' c' _ _ _ _ w (by omega) (by omega) (by rw [z1]; omega) (by rw [z2]; exact q4) T1 T2 B1 B2
        · have e : wA g N D = ((sB (sg g (decDigits N)), sB (decDigits D)), 0) := by unfold wA; rw [if_pos ⟨by omega, by omega⟩]
          rw [e]
          exact Write_walk g a a' l c l' c' _ _ _ _ _ w (by omega) (by omega) (by show ByteArray.size ⟨(decDigits N).toArray⟩ ≤ 4096; rw [z1]; omega) (by show ByteArray.size ⟨(decDigits D).toArray⟩ ≤ 4096; rw [z2]; omega) T1 T2 B1 B2 (fun y => WSign_any _ _ y (by omega))
/-- What is told of an exact number: as it is written, or that it is too long. -/
def wrA (r : Rat) : Value × Int := (.agg #[.string (wA (decide (r.num < 0)) r.num.natAbs r.den).1.1, .string (wA (decide (r.num < 0)) r.num.natAbs r.den).1.2], (wA (decide (r.num < 0)) r.num.natAbs r.den).2)
theorem wrA_short {r : Rat} (h1 : (decDigits r.num.natAbs).length ≤ 4096) (h2 : (decDigits r.den).length ≤ 4096) : wrA r = (wrt r, 0) := by
  unfold wrA wA wrt
  rw [if_pos ⟨h1, h2⟩]
theorem wrA_long {r : Rat} (h : ¬ ((decDigits r.num.natAbs).length ≤ 4096 ∧ (decDigits r.den).length ≤ 4096)) : wrA r = (.agg #[.string ⟨#[]⟩, .string ⟨#[]⟩], 3) := by
  unfold wrA wA
  rw [if_neg h]
end Go.Proofs.YtiobnojcmeeikaaGreatDoor.Mo

namespace Go.Proofs.YtiobnojcmeeikaaGreatDoor.L
open Go.RowKit Tl Go.Lib
set_option maxRecDepth 100000 in
set_option maxHeartbeats 3200000 in
theorem out_long (g : Bool) (a1 a2 : Option Addr) (m1 c1 m2 c2 : Nat) (s t : ByteArray) (w : World) (hl : (s.size : Int) > 4096 ∨ (¬ (s.size : Int) > 4096 ∧ (t.size : Int) > 4096))
    (T1 : ∀ x, Below w.heap.size w x → Calls Tryz.prog 30 #[.slice a1 m1 c1] x fun e w' => e = .returned (.string s) ∧ Below x.heap.size x w')
    (T2 : ∀ x, Below w.heap.size w x → Calls Tryz.prog 30 #[.slice a2 m2 c2] x fun e w' => e = .returned (.string t) ∧ Below x.heap.size x w') :
    Calls Tryz.prog 16 #[.agg #[.bool g, .slice a1 m1 c1, .slice a2 m2 c2]] w fun e w' => e = .returned (.tuple #[.agg #[.string ⟨#[]⟩, .string ⟨#[]⟩], .int .i64 3]) ∧ Below w.heap.size w w' := by
  have K0 := (Blk.new w #[.bool g, .slice a1 m1 c1, .slice a2 m2 c2] 49).alloc (.cells #[.string ⟨#[]⟩, .string ⟨#[]⟩] 25)
  have KR := Blk.new (w.alloc (.cells #[.bool g, .slice a1 m1 c1, .slice a2 m2 c2] 49)) #[.string ⟨#[]⟩, .string ⟨#[]⟩] 25
  simp only [World.size_alloc] at KR
  have pr : Below w.heap.size w ((w.alloc (.cells #[.bool g, .slice a1 m1 c1, .slice a2 m2 c2] 49)).alloc (.cells #[.string ⟨#[]⟩, .string ⟨#[]⟩] 25)) := ((Below.refl _ _).alloc (Nat.le_refl _) _).alloc (by simp) _
  go_enter Tryz.func16, Tryz.ntmps16
  go_wp2_with fail
  generalize (w.alloc (.cells #[.bool g, .slice a1 m1 c1, .slice a2 m2 c2] 49)).alloc (.cells #[.string ⟨#[]⟩, .string ⟨#[]⟩] 25) = W at *
  go_cut [4, 5] from 6 to 11 (fun x y wc => x = .string s ∧ y = .string t ∧ Below W.heap.size W wc)
  case first =>
    rename_i hm hJ
    refine wp_region_held (S := fun _ => True) (by kernel_rfl) (any_inv (fun listed a x => ∃ (y0 y1 y2 y3 y4 y5 : Bool) (t6 t7 t8 t9 t10 t11 : Value) (z4 z5 : Value), a = ⟨#[.agg #[.bool g, .slice a1 m1 c1, .slice a2 m2 c2], .pointer (some ⟨w.heap.size, 0, none⟩), .pointer (some ⟨w.heap.size + 1, 0, none⟩), .int .i64 0, z4, z5, t6, t7, t8, t9, t10, t11, undef, undef, undef, undef, undef, undef, undef, undef, undef, undef, undef, undef, undef, undef, undef, undef, undef], []⟩ ∧ ((listed = #[y0, y1, y2, y3, y4, y5, false, false] ∧ OQ1 W x (.pointer (some ⟨w.heap.size, 1, none⟩)) (.slice a1 m1 c1) (.string s) (.pointer (some ⟨w.heap.size, 2, none⟩)) (.slice a2 m2 c2) (.string t) y0 y1 y2 y3 y4 y5 t6 t7 t8 t9 t10 t11 ∧ z4 = undef ∧ z5 = undef) ∨ (listed = #[true, true, true, true, true, true, true, false] ∧ t8 = .string s ∧ t11 = .string t ∧ z4 = .string s ∧ z5 = undef ∧ Below W.heap.size W x) ∨ (listed = #[true, true, true, true, true, true, true, true] ∧ t8 = .string s ∧ t11 = .string t ∧ z4 = .string s ∧ z5 = .string t ∧ Below W.heap.size W x))) ?_ ?_ _ _ _ _ (by decide) ?_)
    · rintro listed a x i ⟨y0, y1, y2, y3, y4, y5, t6, t7, t8, t9, t10, t11, z4, z5, rfl, h⟩ hi
      have hr : i < 8 := List.mem_range.1 (List.mem_filter.1 hi).1
      have hc := (List.mem_filter.1 hi).2
      rcases h with ⟨rfl, h⟩ | ⟨rfl, h⟩ | ⟨rfl, h⟩
      · rcases (show i = 0 ∨ i = 1 ∨ i = 2 ∨ i = 3 ∨ i = 4 ∨ i = 5 ∨ i = 6 ∨ i = 7 by omega) with rfl | rfl | rfl | rfl | rfl | rfl | rfl | rfl
        · obtain ⟨h, rfl, rfl⟩ := h
          clear hc hi
          refine wpOp_step rfl (fun K hK0 => ?_)
          have hK : Hid _ := hK0
          clear hK0
          rw [if_pos (by rfl)]
          go_wp2_with fail
          exact hK.out _ _ ⟨true,_,_,_,_,_,.pointer (some ⟨w.heap.size, 1, none⟩),_,_,_,_,_,undef,undef,rfl,Or.inl ⟨rfl, ⟨{ h with o0 := fun _ => rfl }, rfl, rfl⟩⟩⟩
        · obtain ⟨h, rfl, rfl⟩ := h
          have e0 : y0 = true := by
            revert hc
            cases y0 <;> simp [Region.binds]
          have r0 := h.o0 e0
          subst r0
          clear hc hi
          have kd := ((K0.below h.bel K0.lt).at 1)
          simp at kd
          refine wpOp_step rfl (fun K hK0 => ?_)
          have hK : Hid _ := hK0
          clear hK0
          rw [if_pos (by rfl)]
          go_wp2_with fail
          exact hK.out _ _ ⟨_,true,_,_,_,_,_,.slice a1 m1 c1,_,_,_,_,undef,undef,rfl,Or.inl ⟨rfl, ⟨{ h with o1 := fun _ => rfl }, rfl, rfl⟩⟩⟩
        · obtain ⟨h, rfl, rfl⟩ := h
          have e1 : y1 = true := by
            revert hc
            cases y1 <;> simp [Region.binds]
          have r1 := h.o1 e1
          subst r1
          clear hc hi
          refine wpOp_step rfl (fun K hK0 => ?_)
          have hK : Hid _ := hK0
          clear hK0
          rw [if_pos (by rfl)]
          go_wp2_with (first | (go_at_call 30; go_must (refine (T1 x (bel' pr h.bel)).mono ?_; rintro e x2 ⟨rfl, bb⟩)) | fail)
          exact hK.out _ _ ⟨_,_,true,_,_,_,_,_,_,_,_,_,undef,undef,rfl,Or.inl ⟨rfl, ⟨{ h.grow bb with o2 := fun _ => rfl }, rfl, rfl⟩⟩⟩
        · obtain ⟨h, rfl, rfl⟩ := h
          clear hc hi
          refine wpOp_step rfl (fun K hK0 => ?_)
          have hK : Hid _ := hK0
          clear hK0
          rw [if_pos (by rfl)]
          go_wp2_with fail
          exact hK.out _ _ ⟨_,_,_,true,_,_,_,_,_,.pointer (some ⟨w.heap.size, 2, none⟩),_,_,undef,undef,rfl,Or.inl ⟨rfl, ⟨{ h with o3 := fun _ => rfl, d4_3 := fun _ => rfl }, rfl, rfl⟩⟩⟩
        · obtain ⟨h, rfl, rfl⟩ := h
          have e3 : y3 = true := by
            revert hc
            cases y3 <;> simp [Region.binds]
          have r3 := h.o3 e3
          subst r3
          clear hc hi
          have kd := ((K0.below h.bel K0.lt).at 2)
          simp at kd
          refine wpOp_step rfl (fun K hK0 => ?_)
          have hK : Hid _ := hK0
          clear hK0
          rw [if_pos (by rfl)]
          go_wp2_with fail
          exact hK.out _ _ ⟨_,_,_,_,true,_,_,_,_,_,.slice a2 m2 c2,_,undef,undef,rfl,Or.inl ⟨rfl, ⟨{ h with o4 := fun _ => rfl, d4_3 := fun _ => e3, d5_4 := fun _ => rfl }, rfl, rfl⟩⟩⟩
        · obtain ⟨h, rfl, rfl⟩ := h
          have e4 : y4 = true := by
            revert hc
            cases y4 <;> simp [Region.binds]
          have r4 := h.o4 e4
          subst r4
          clear hc hi
          refine wpOp_step rfl (fun K hK0 => ?_)
          have hK : Hid _ := hK0
          clear hK0
          rw [if_pos (by rfl)]
          go_wp2_with (first | (go_at_call 30; go_must (refine (T2 x (bel' pr h.bel)).mono ?_; rintro e x2 ⟨rfl, bb⟩)) | fail)
          exact hK.out _ _ ⟨_,_,_,_,_,true,_,_,_,_,_,_,undef,undef,rfl,Or.inl ⟨rfl, ⟨{ h.grow bb with o5 := fun _ => rfl, d5_4 := fun _ => e4 }, rfl, rfl⟩⟩⟩
        · obtain ⟨h, rfl, rfl⟩ := h
          have e0 : y0 = true := by
            revert hc
            cases y0 <;> simp [Region.binds]
          have e1 : y1 = true := by
            revert hc
            cases y1 <;> simp [Region.binds]
          have e2 : y2 = true := by
            revert hc
            cases y2 <;> simp [Region.binds]
          have e5 : y5 = true := by
            revert hc
            cases y5 <;> simp [Region.binds]
          have e4 := h.d5_4 e5
          have e3 := h.d4_3 e4
          have r2 := h.o2 e2
          subst r2
          have r5 := h.o5 e5
          subst r5
          clear hc hi
          subst e0 e1 e2 e3 e4 e5
          have bl := h.bel
          clear h
          refine wpOp_step rfl (fun K hK0 => ?_)
          have hK : Hid _ := hK0
          clear hK0
          rw [if_pos (by rfl)]
          go_wp2_with fail
          exact hK.out _ _ ⟨true,true,true,true,true,true,_,_,_,_,_,_,_,_,rfl,Or.inr (Or.inl ⟨rfl, rfl, rfl, rfl, rfl, bl⟩)⟩
        · simp [Region.binds] at hc
      · rcases (show i = 0 ∨ i = 1 ∨ i = 2 ∨ i = 3 ∨ i = 4 ∨ i = 5 ∨ i = 6 ∨ i = 7 by omega) with rfl | rfl | rfl | rfl | rfl | rfl | rfl | rfl
        · simp at hc
        · simp at hc
        · simp at hc
        · simp at hc
        · simp at hc
        · simp at hc
        · simp at hc
        · clear hc hi
          obtain ⟨rfl, rfl, rfl, rfl, bl⟩ := h
          refine wpOp_step rfl (fun K hK0 => ?_)
          have hK : Hid _ := hK0
          clear hK0
          rw [if_pos (by rfl)]
          go_wp2_with fail
          exact hK.out _ _ ⟨true,true,true,true,true,true,_,_,_,_,_,_,_,_,rfl,Or.inr (Or.inr (⟨rfl, rfl, rfl, rfl, rfl, bl⟩))⟩
      · rcases (show i = 0 ∨ i = 1 ∨ i = 2 ∨ i = 3 ∨ i = 4 ∨ i = 5 ∨ i = 6 ∨ i = 7 by omega) with rfl | rfl | rfl | rfl | rfl | rfl | rfl | rfl <;> simp at hc
    · rintro listed a x ⟨y0, y1, y2, y3, y4, y5, t6, t7, t8, t9, t10, t11, z4, z5, rfl, h⟩ hn
      have al := all_listed (by decide +kernel) hn
      rcases h with ⟨rfl, h⟩ | ⟨rfl, h⟩ | ⟨rfl, h⟩
      · have z := al 6 (by decide)
        simp at z
      · have z := al 7 (by decide)
        simp at z
      · obtain ⟨rfl, rfl, rfl, rfl, bl⟩ := h
        refine hJ _ _ ?_
        go_meet
        case rel => exact ⟨rfl, rfl, bl⟩
    · exact ⟨false, false, false, false, false, false, undef, undef, undef, undef, undef, undef, undef, undef, rfl, Or.inl ⟨rfl, ⟨{ bel := (Below.refl _ _).drew, o0 := (by intro q; cases q), o1 := (by intro q; cases q), o2 := (by intro q; cases q), o3 := (by intro q; cases q), o4 := (by intro q; cases q), o5 := (by intro q; cases q), d4_3 := (by intro q; cases q), d5_4 := (by intro q; cases q) }, rfl, rfl⟩⟩⟩
  case rest =>
    obtain ⟨rfl, rfl, b2⟩ := hcut
    have p2 := bel pr b2
    have KR2 := KR.below b2 KR.lt
    have z0 := KR2.at 0
    have z1 := KR2.at 1
    have y0 := KR2.free 0
    have y1 := KR2.free 1
    simp at z0 z1
    clear T1 T2 KR K0 pr b2
    rename World => w2
    rcases hl with s1 | ⟨s1, s2⟩
    all_goals
     go_wp2_with fail
     have KE := bput (bput KR2 0 (.string ⟨#[]⟩)) 1 (.string ⟨#[]⟩)
     have bE := (p2.setCell (p := ⟨w.heap.size + 1, 0, none⟩) (show w.heap.size ≤ w.heap.size + 1 by omega) (.string ⟨#[]⟩)).setCell (p := ⟨w.heap.size + 1, 1, none⟩) (show w.heap.size ≤ w.heap.size + 1 by omega) (.string ⟨#[]⟩)
     have q0 := KE.at 0
     have q1 := KE.at 1
     simp at q0 q1
     exact bodyPost_ret (v := .tuple #[.agg #[.string ⟨#[]⟩, .string ⟨#[]⟩], .int .i64 3]) (by simp [results, Tryz.results16, go_sem, q0, q1]) rfl ⟨rfl, bE⟩
/-- What Out tells, of whatever length. -/
theorem Out_any (v : Value) (r : Rat) (K : Nat) (w : World) (h : IsQ w v r) (hK : QS r K) (hK' : K ≤ 1000000000) :
    Calls Tryz.prog 16 #[v] w fun e w' => e = .returned (.tuple #[(Mo.wrA r).1, .int .i64 (Mo.wrA r).2]) ∧ Below w.heap.size w w' := by
  by_cases l : (decDigits r.num.natAbs).length ≤ 4096 ∧ (decDigits r.den).length ≤ 4096
  · rw [Mo.wrA_short l.1 l.2]
    exact Out_q v r K w h hK hK' l.1 l.2
  · rw [Mo.wrA_long l]
    obtain ⟨ns, ds, a1, a2, c1, c2, rfl, h1, n1, v1, h2, n2, v2⟩ := h
    have k1 : ns.length ≤ K := len_of_lt h1.1 n1 (by rw [v1]; exact hK.1)
    have k2 : ds.length ≤ K := len_of_lt h2.1 n2 (by rw [v2]; exact hK.2)
    have T1 := fun x (b : Below w.heap.size w x) => Text_any _ ns _ x (h1.grow b) n1 (by omega) v1
    have T2 := fun x (b : Below w.heap.size w x) => Text_any _ ds _ x (h2.grow b) n2 (by omega) v2
    by_cases l1 : (decDigits r.num.natAbs).length ≤ 4096
    · have l2 : ¬ (decDigits r.den).length ≤ 4096 := fun h => l ⟨l1, h⟩
      exact out_long _ a1 a2 _ c1 _ c2 (Mo.sB (decDigits r.num.natAbs)) (Mo.sB (decDigits r.den)) w (Or.inr ⟨by rw [Mo.sB_size]; omega, by rw [Mo.sB_size]; omega⟩) T1 T2
    · exact out_long _ a1 a2 _ c1 _ c2 (Mo.sB (decDigits r.num.natAbs)) (Mo.sB (decDigits r.den)) w (Or.inl (by rw [Mo.sB_size]; omega)) T1 T2
end Go.Proofs.YtiobnojcmeeikaaGreatDoor.L

namespace Go.Proofs.YtiobnojcmeeikaaGreatDoor.Dy
open Mo
theorem gPow : Tryz.prog.globalNamed "internal/strconv.uint64pow10" = some 2 := by kernel_rfl
theorem gw_of {w : World} (h : Go.Lib.TabIs Tryz.prog w "internal/strconv.uint64pow10" .u64 Go.Lib.pow10Tab) : Gw w := fun _ b => Go.Joins.var_stays gPow h b (Nat.le_refl _)
end Go.Proofs.YtiobnojcmeeikaaGreatDoor.Dy
