import Derived.Test.YtebilgnmnambnaaGreatDoorPart35
import Derived.Test.YtebilgnmnambnaaGreatDoorPart34
import Derived.Test.YtebilgnmnambnaaGreatDoorShelf
import Derived.Test.YtebilgnmnambnaaGreatDoorPart27
import Derived.Test.YtebilgnmnambnaaGreatDoorPart06
import Derived.Test.YtebilgnmnambnaaGreatDoorPart21
import Derived.Deep.RegionHeld3

namespace Go.Proofs.YtebilgnmnambnaaGreatDoor.Wt
open Go.RowKit Tn Mo Go.Lib
theorem drop_lead {a b : List UInt8} {c : UInt8} {t : List UInt8} (h1 : ∀ x ∈ a, x = 48) (h2 : b = c :: t) (h3 : c.toNat ≠ 48) : (a ++ b).dropWhile (· == 48) = b := by
  induction a with
  | nil =>
    subst h2
    have : (c == 48) = false := by
      rw [beq_eq_false_iff_ne]
      rintro rfl
      exact h3 rfl
    simp [this]
  | cons x a ih =>
    obtain rfl := h1 x (by simp)
    rw [List.cons_append, List.dropWhile_cons]
    simp only [beq_self_eq_true, if_true]
    exact ih (fun x hx => h1 x (by simp [hx]))
theorem str_list (xs : List Int) : (strOfNums xs).data.toList = xs.map fun n => UInt8.ofNat n.toNat := by simp [strOfNums]
theorem trim_pd (V N : Nat) (h : nDigits V ≤ N) (h0 : 0 < V) : trimLeftB (strOfNums (pd V N)).data.toList 48 = decDigits V := by
  have e : pd V N = Dc.dgs V N N := rfl
  have hs := congrArg (fun s : ByteArray => s.data.toList) (Dc.dgs_str V N h)
  simp only [str_list] at hs
  rw [e, str_list]
  unfold trimLeftB
  rw [← List.take_append_drop (N - nDigits V) (Dc.dgs V N N), List.map_append, hs]
  obtain ⟨c, t, ec, _, hc⟩ := dec_cons V
  refine drop_lead (fun x hx => ?_) ec (hc h0)
  obtain ⟨n, hn, rfl⟩ := List.mem_map.1 hx
  obtain ⟨i, hi⟩ := List.getElem?_of_mem hn
  have hl : i < N - nDigits V := by
    by_cases q : i < N - nDigits V
    · exact q
    · rw [List.getElem?_eq_none (by rw [List.length_take]; omega)] at hi; cases hi
  rw [List.getElem?_take, if_pos hl] at hi
  have g := Dc.dgs_at V N N i (by omega)
  rw [List.getD_eq_getElem?_getD, hi] at g
  simp only [Option.getD_some] at g
  rw [g, Dc.high_digit V (N - 1 - i) (by omega)]
  rfl
theorem Lr.ru {w wr : World} {g cap k : Nat} {vals : List Value} (h : Lr w wr g cap k vals) : Ru wr wr.heap.size g 0 k := by
  refine ⟨h.R.lt, fun i hi => ?_⟩
  obtain ⟨a, l, c, e, n⟩ := h.v i hi
  refine ⟨a, l, c, by rw [Nat.zero_add]; exact h.R.at e, n, fun ad ea => ?_⟩
  obtain ⟨xs, ⟨hW, a1, c1, e1, _, _, h3⟩, _, hv⟩ := n
  have pos : 0 < xs.length := by
    by_cases q : 0 < xs.length
    · exact q
    · have : xs = [] := List.eq_nil_of_length_eq_zero (by omega)
      subst this
      have := rung_pos i
      have z : val [] = 0 := rfl
      rw [z] at hv
      omega
  obtain ⟨b, o, e2, q⟩ := h3 pos
  simp only [Value.slice.injEq] at e1
  rw [e1.1, e2] at ea
  cases ea
  exact lt_of_cell (q 0 pos)
end Go.Proofs.YtebilgnmnambnaaGreatDoor.Wt

namespace Go.Proofs.YtebilgnmnambnaaGreatDoor.Wt
open Go.RowKit Tn Mo Go.Lib
theorem nDig_of {V k : Nat} (h : V < rung k) : nDigits V ≤ 19 * 2 ^ k := by
  refine Dc.nDigits_le (Nat.mul_pos (by decide) (Nat.pow_pos (by decide))) ?_
  rw [ten_pow]
  exact h
theorem nb_pw {A n : Nat} (h : nb A ≤ 64 * n) : (A : Int) < pw n := by
  rw [pw_two]
  exact lt_cast (Nat.lt_of_lt_of_le (nb_spec A).1 (Nat.pow_le_pow_right (by decide) h))
set_option maxRecDepth 100000 in
set_option maxHeartbeats 3200000 in
theorem Text_many (p : Option Addr) (l c A : Nat) (w : World) (hA : Nn w p l c (A : Int)) (hb : nb A ≤ 32000) (h2 : 18446744073709551616 ≤ A) :
    Calls Tryz.prog 67 #[.agg #[.slice p l c]] w fun e w' => e = .returned (.string ⟨(decDigits A).toArray⟩) ∧ Below w.heap.size w w' := by
  have hAp : (A : Int) < pw 1000000 := nb_pw (by omega)
  have hl : 2 ≤ l := by
    obtain ⟨xs, ⟨hW, a1, c1, e, _⟩, n, hv⟩ := hA
    simp only [Value.slice.injEq] at e
    rw [e.2.1]
    by_cases q : 2 ≤ xs.length
    · exact q
    · exfalso
      have v1 := val_lt hW
      have := pw_mono (show xs.length ≤ 1 by omega)
      have p1 : pw 1 = 18446744073709551616 := by decide
      omega
  have hlm : (l : Int) ≤ 9223372036854775807 := by
    obtain ⟨xs, ⟨hW, a1, c1, e, h3, h4, _⟩, n, hv⟩ := hA
    simp only [Value.slice.injEq] at e
    unfold maxLen at h4
    omega
  have hl' : ¬ (l : Int) ≤ 1 := by omega
  have B0 := Bx.new w (.slice p l c) 65
  have al := (Below.refl w.heap.size w).alloc (Nat.le_refl _) (.cells #[.slice p l c] 65)
  have nA := hA.grow al
  have q0 := B0.1
  have lB := B0.lt
  have LA := fun (x : World) (h : Nn x p l c (A : Int)) => ladder_any p l c A x h hb hAp
  have HP : Hid ((A : Int) < pw 1000000) := hAp
  clear hAp hA
  go_enter Tryz.func67, Tryz.ntmps67
  go_wp2_with fail
  generalize w.alloc (.cells #[.slice p l c] 65) = W at *
  have LAD := LA W.drew nA
  clear LA
  go_region_held3 (fun x => x.cell? ⟨w.heap.size, 0, none⟩ = some (.slice p l c)) (go_keep) (first
    | (go_at_call 127; refine (DG.mono ?_); rintro e w3 ⟨gt, cap2, rfl, o3, gr3, nb3, u3⟩; have s3 := gr3.cell s2 (fun e => by cases e))
    | (go_at_call 128; refine LAD.mono ?_; rintro e w2 ⟨g, cap, k, vals, rfl, k1, k8, kc, hlt, LR⟩; have b2 : Below W.drew.heap.size W.drew w2 := LR.bel; have s2 := (b2.cell (p := ⟨w.heap.size, 0, none⟩) lB).trans q0; have nA2 := nA.grow (bel' (Below.refl _ _).drew b2); have DG := digits_any k k1 (by omega) p l c A none 0 0 [] w2.heap.size g 0 cap w2 nA2 HP.out rfl (by have : 2 ^ k ≤ 2 ^ 9 := Nat.pow_le_pow_right (by decide) k8; simp; omega) (World.ownsRow_nil _ _ _ _) (Nat.le_refl _) (fun k e => by cases e) LR.ru kc; obtain ⟨K, hK⟩ : ∃ K, 19 * 2 ^ k = K := ⟨_, rfl⟩; rw [hK] at DG; simp only [List.length_nil, Nat.zero_add, List.nil_append] at DG)
    | fail)
  all_goals
    obtain ⟨T, _, _⟩ := Tr.of (l := pd A K) o3 u3
    have cv := run_convert_bytes_arg (P := Tryz.prog) w3 126 5 Tryz.underlying126 Tryz.underlying5 gt 0 K cap2 (pd A K) (pd_len A K) (fun i hi => by rw [Nat.zero_add]; exact T.cel i hi) 9 Tryz.underlying9
    have TL := Tryz.strings_TrimLeft_one (strOfNums (pd A K)) 48 (by decide)
    rw [trim_pd A K (by rw [← hK]; exact nDig_of hlt) (by omega)] at TL
    have bE : Below w.heap.size w w3 := bel' (bel' al (bel' (Below.refl _ _).drew b2)) ⟨gr3.os, gr3.tape, gr3.output, gr3.size, fun j hj => gr3.block j hj (by simp [Value.ownBlock])⟩
    clear T o3 u3 LR DG LAD nA nA2 gr3
    go_wp2_with (first | (go_at_call 129; go_must (refine (TL _).mono ?_; rintro e w4 ⟨rfl, hw⟩; subst w4)) | fail)
    go_ret
    exact ⟨rfl, bE⟩
end Go.Proofs.YtebilgnmnambnaaGreatDoor.Wt

namespace Go.Proofs.YtebilgnmnambnaaGreatDoor.Mo
open Go.RowKit Fu Tn Go.Lib Wt
theorem two_le {N n : Nat} (h : n < nb N) : 2 ^ n ≤ N := by
  rcases (nb_spec N).2 with s | s
  · omega
  · exact Nat.le_trans (Nat.pow_le_pow_right (by decide) (by omega)) s
theorem no_less {N k m n : Nat} (h1 : 2 ^ n ≤ N) (h3 : 10 ^ m ≤ 2 ^ n) (h2 : N < 10 ^ k) : m < k := by
  by_cases c : m < k
  · exact c
  · exact absurd (Nat.lt_of_lt_of_le h2 (Nat.le_trans (Nat.pow_le_pow_right (by decide) (by omega)) (Nat.le_trans h3 h1))) (Nat.lt_irrefl _)
theorem ten_two : (10 : Nat) ^ 4096 ≤ 2 ^ 13654 := by decide +kernel
theorem long_bits {N : Nat} (h : 13654 < nb N) : 4096 < (decDigits N).length := by
  have h1 := two_le h
  have h2 : N < 10 ^ (decDigits N).length := by
    have := Dc.num_lt (decDigits N) (dec_dg N)
    rwa [dec_num] at this
  exact no_less h1 ten_two h2
theorem Text_any (a : Option Addr) (l c V : Nat) (w : World) (h : Nn w a l c (V : Int)) (hb : nb V ≤ 32000) (G : Gw w) :
    Calls Tryz.prog 67 #[.agg #[.slice a l c]] w fun e w' => e = .returned (.string ⟨(decDigits V).toArray⟩) ∧ Below w.heap.size w w' := by
  by_cases q : V < 18446744073709551616
  · exact Text_one a l c V w h q G
  · exact Text_many a l c V w h hb (by omega)
def wA (g : Bool) (N D : Nat) : (ByteArray × ByteArray) × Int := if (decDigits N).length ≤ 4096 ∧ (decDigits D).length ≤ 4096 then ((sB (sg g (decDigits N)), sB (decDigits D)), 0) else ((⟨#[]⟩, ⟨#[]⟩), 3)
theorem Write_any (g : Bool) (a a' : Option Addr) (l c l' c' N D : Nat) (w : World) (h1 : Nn w a l c (N : Int)) (h2 : Nn w a' l' c' (D : Int)) (b1 : (N : Int) < pw 1000000) (b2 : (D : Int) < pw 1000000) (G : Gw w) :
    Calls Tryz.prog 105 #[.bool g, .agg #[.slice a l c], .agg #[.slice a' l' c']] w fun e w' => e = .returned (.tuple #[.agg #[.string (wA g N D).1.1, .string (wA g N D).1.2], .int .i64 (wA g N D).2]) ∧ Below w.heap.size w w' := by
  have B1 : ∀ x, Below w.heap.size w x → Calls Tryz.prog 111 #[.agg #[.slice a l c]] x fun e w' => e = .returned (.int .i64 (nb N)) ∧ Below x.heap.size x w' := fun x b => BitLen_n (h1.grow b) b1 (Nat.le_refl _)
  have B2 : ∀ x, Below w.heap.size w x → Calls Tryz.prog 111 #[.agg #[.slice a' l' c']] x fun e w' => e = .returned (.int .i64 (nb D)) ∧ Below x.heap.size x w' := fun x b => BitLen_n (h2.grow b) b2 (Nat.le_refl _)
  have LO : ∀ (P : Prop), ¬ ((decDigits N).length ≤ 4096 ∧ (decDigits D).length ≤ 4096) → (wA g N D = ((⟨#[]⟩, ⟨#[]⟩), 3) → P) → P := fun P h q => q (by unfold wA; rw [if_neg h])
  by_cases q1 : 13654 < nb N
  · refine LO _ (fun h => by have := long_bits q1; omega) (fun e => ?_)
    rw [e]
    exact Write_big1 g a a' l c l' c' _ w (by omega) B1
  · by_cases q2 : 13654 < nb D
    · refine LO _ (fun h => by have := long_bits q2; omega) (fun e => ?_)
      rw [e]
      exact Write_big2 g a a' l c l' c' _ _ w (by omega) (by omega) B1 B2
    · have T1 := fun x (b : Below w.heap.size w x) => Text_any a l c N x (h1.grow b) (by omega) (G.grow b)
      have T2 := fun x (b : Below w.heap.size w x) => Text_any a' l' c' D x (h2.grow b) (by omega) (G.grow b)
      have z1 : ByteArray.size ⟨(decDigits N).toArray⟩ = (decDigits N).length := sB_size _
      have z2 : ByteArray.size ⟨(decDigits D).toArray⟩ = (decDigits D).length := sB_size _
      by_cases q3 : 4096 < (decDigits N).length
      · refine LO _ (fun h => by omega) (fun e => ?_)
        rw [e]
        exact Write_many1 g a a' l c l' c' _ _ _ _ w (by omega) (by omega) (by rw [z1]; exact q3) T1 T2 B1 B2
      · by_cases q4 : 4096 < (decDigits D).length
        · refine LO _ (fun h => by omega) (fun e => ?_)
          rw [e]
          exact Write_many2 g a a' l c l' c' _ _ _ _ w (by omega) (by omega) (by rw [z1]; omega) (by rw [z2]; exact q4) T1 T2 B1 B2
        · have e : wA g N D = ((sB (sg g (decDigits N)), sB (decDigits D)), 0) := by unfold wA; rw [if_pos ⟨by omega, by omega⟩]
          rw [e]
          exact Write_walk g a a' l c l' c' _ _ _ _ _ w (by omega) (by omega) (by show ByteArray.size ⟨(decDigits N).toArray⟩ ≤ 4096; rw [z1]; omega) (by show ByteArray.size ⟨(decDigits D).toArray⟩ ≤ 4096; rw [z2]; omega) T1 T2 B1 B2 (fun y => WSign_any _ _ y (by omega))
set_option maxRecDepth 100000 in
set_option maxHeartbeats 800000 in
theorem Ratio_walk (g : Bool) (a a' : Option Addr) (l c l' c' : Nat) (s t : ByteArray) (er : Int) (w : World)
    (WR : ∀ x, Below w.heap.size w x → Calls Tryz.prog 105 #[.bool g, .agg #[.slice a l c], .agg #[.slice a' l' c']] x fun e w' => e = .returned (.tuple #[.agg #[.string s, .string t], .int .i64 er]) ∧ Below x.heap.size x w') :
    Calls Tryz.prog 44 #[.agg #[.bool g, .slice a l c, .slice a' l' c']] w fun e w' => e = .returned (.tuple #[.agg #[.string s, .string t], .int .i64 er]) ∧ Below w.heap.size w w' := by
  have K0 := (Rb.new w (.bool g) (.slice a l c) (.slice a' l' c') 67).alloc (.cells #[.string ⟨#[]⟩, .string ⟨#[]⟩] 23)
  have KR := Blk.new (w.alloc (.cells #[.bool g, .slice a l c, .slice a' l' c'] 67)) #[.string ⟨#[]⟩, .string ⟨#[]⟩] 23
  simp only [World.size_alloc] at KR
  have pr : Below w.heap.size w ((w.alloc (.cells #[.bool g, .slice a l c, .slice a' l' c'] 67)).alloc (.cells #[.string ⟨#[]⟩, .string ⟨#[]⟩] 23)) := ((Below.refl _ _).alloc (Nat.le_refl _) _).alloc (by simp) _
  have c0 := K0.c0
  have c1 := K0.c1
  have c2 := K0.c2
  go_enter Tryz.func44, Tryz.ntmps44
  go_wp2_with (first
    | (go_at_call 105; refine (WR _ pr).mono ?_; rintro e w1 ⟨rfl, b1⟩; have p1 := bel' pr b1; have KR1 := KR.below b1 KR.lt; have kr0 := KR1.at 0; have kr1 := KR1.at 1; have kf0 := KR1.free 0; have kf1 := KR1.free 1; simp at kr0 kr1)
    | fail)
  have KE := bput (bput KR1 0 (.string s)) 1 (.string t)
  have bE := (p1.setCell (p := ⟨w.heap.size + 1, 0, none⟩) (show w.heap.size ≤ w.heap.size + 1 by omega) (.string s)).setCell (p := ⟨w.heap.size + 1, 1, none⟩) (show w.heap.size ≤ w.heap.size + 1 by omega) (.string t)
  generalize (w1.setCell ⟨w.heap.size + 1, 0, none⟩ (.string s)).setCell ⟨w.heap.size + 1, 1, none⟩ (.string t) = WE at *
  have z0 := KE.at 0
  have z1 := KE.at 1
  simp at z0 z1
  exact bodyPost_ret (v := .tuple #[.agg #[.string s, .string t], .int .i64 er]) (by simp [results, Tryz.results44, go_sem, z0, z1]) rfl ⟨rfl, bE⟩
def wrA (r : Rat) : Value × Int := (.agg #[.string (wA (decide (r.num < 0)) r.num.natAbs r.den).1.1, .string (wA (decide (r.num < 0)) r.num.natAbs r.den).1.2], (wA (decide (r.num < 0)) r.num.natAbs r.den).2)
theorem wrA_short {r : Rat} (h1 : (decDigits r.num.natAbs).length ≤ 4096) (h2 : (decDigits r.den).length ≤ 4096) : wrA r = (wrt r, 0) := by
  unfold wrA wA wrt
  rw [if_pos ⟨h1, h2⟩]
theorem wrA_long {r : Rat} (h : ¬ ((decDigits r.num.natAbs).length ≤ 4096 ∧ (decDigits r.den).length ≤ 4096)) : wrA r = (.agg #[.string ⟨#[]⟩, .string ⟨#[]⟩], 3) := by
  unfold wrA wA
  rw [if_neg h]
theorem Ratio_any (v : Value) (r : Rat) (w : World) (h : PF w v r) (hs : PS r 1000000) (G : Gw w) :
    Calls Tryz.prog 44 #[v] w fun e w' => e = .returned (.tuple #[(wrA r).1, .int .i64 (wrA r).2]) ∧ Below w.heap.size w w' := by
  obtain ⟨a, l, c, a', l', c', rfl, k1, k2⟩ := h
  exact Ratio_walk _ a a' l c l' c' _ _ _ w (fun x b => Write_any _ a a' l c l' c' _ _ x (k1.grow b) (k2.grow b) hs.1 hs.2 (G.grow b))
end Go.Proofs.YtebilgnmnambnaaGreatDoor.Mo

namespace Go.Proofs.YtebilgnmnambnaaGreatDoor.Mo
open Go.RowKit Fu Tn Go.Lib Dc
set_option maxHeartbeats 3200000 in
set_option maxRecDepth 100000 in
theorem Check_raw (s1 t1 : ByteArray) (k : Int) (w : World)
    (CR' : ∀ x, Below w.heap.size w x → Calls Tryz.prog 47 #[.agg #[.string s1, .string t1]] x fun e w' => ∃ (g : Bool) (a : Option Addr × Option Addr) (l c : Nat × Nat), e = .returned (.tuple #[.agg #[.bool g, .slice a.1 l.1 c.1, .slice a.2 l.2 c.2], .int .i64 k]) ∧ Below x.heap.size x w') :
    Calls Tryz.prog 72 #[.agg #[.string s1, .string t1]] w fun e w' => e = .returned (.int .i64 k) ∧ Below w.heap.size w w' := by
  have KA := Blk.new w #[.string s1, .string t1] 23
  have pr : Below w.heap.size w (w.alloc (.cells #[.string s1, .string t1] 23)) := (Below.refl _ _).alloc (Nat.le_refl _) _
  have ka0 := KA.at 0
  have ka1 := KA.at 1
  simp at ka0 ka1
  go_enter Tryz.func72, Tryz.ntmps72
  go_wp2_with (first
    | (go_at_call 47; go_must (refine (CR' _ pr).mono ?_; rintro e w1 ⟨g, a, l, c, rfl, b1⟩))
    | fail)
  exact bodyPost_ret (v := .int .i64 k) (by simp [results, Tryz.results72, go_sem]) rfl ⟨rfl, bel' (bel' pr b1) ((Below.refl _ _).alloc (Nat.le_refl _) _)⟩
end Go.Proofs.YtebilgnmnambnaaGreatDoor.Mo

namespace Go.Proofs.YtebilgnmnambnaaGreatDoor.Mo
open Go.RowKit Fu Tn Go.Lib Dc
theorem Check_any (n d : ByteArray) (w : World) (hn : n.size ≤ 9223372036854775807) (hd : d.size ≤ 9223372036854775807) :
    Calls Tryz.prog 72 #[.agg #[.string n, .string d]] w fun e w' => e = .returned (.int .i64 (goodE n d)) ∧ Below w.heap.size w w' := by
  refine Check_raw _ _ _ w (fun x _ => ?_)
  refine (Read_any n d x hn hd).mono ?_
  rintro e w' ⟨b, h | h⟩
  · exact ⟨false, (none, none), (0, 0), (0, 0), h.2, b⟩
  · obtain ⟨h0, v1, v2, xs, ys, rfl, r1, _, _, _, r2, _⟩ := h
    obtain ⟨a, l, c, rfl⟩ := r1.shape
    obtain ⟨a', l', c', rfl⟩ := r2.shape
    rw [h0]
    exact ⟨_, (a, a'), (l, l'), (c, c'), rfl, b⟩
end Go.Proofs.YtebilgnmnambnaaGreatDoor.Mo
