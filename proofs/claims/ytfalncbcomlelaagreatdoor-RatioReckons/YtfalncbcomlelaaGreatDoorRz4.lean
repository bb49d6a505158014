import Derived.Test.YtfalncbcomlelaaGreatDoorRz1
import Derived.Test.YtfalncbcomlelaaGreatDoorRz2
import Derived.Test.YtfalncbcomlelaaGreatDoorRz3
import Derived.Test.YtfalncbcomlelaaGreatDoorRf5
import Derived.Test.YtfalncbcomlelaaGreatDoorGd4
import Derived.Test.YtfalncbcomlelaaGreatDoorMrk
import Derived.Test.YtfalncbcomlelaaGreatDoorFq3
import Derived.Test.YtfalncbcomlelaaGreatDoorB31
import Derived.Test.YtfalncbcomlelaaGreatDoorB24
import Derived.Test.YtfalncbcomlelaaGreatDoorIp3
namespace Go.Proofs.YtfalncbcomlelaaGreatDoor.Mo
open Go.RowKit Fu Tn Go.Lib Dc

theorem tn_tl' : ∀ m : Nat, Tn.pw m ≤ Tl.pw (3 * m)
  | 0 => by decide
  | m + 1 => by
    have ih := tn_tl' m
    have p := Tn.pw_pos m
    rw [show 3 * (m + 1) = 3 * m + 1 + 1 + 1 by omega]
    simp only [Tn.pw, Tl.pw]
    omega
theorem qs_of {r : Rat} {m : Nat} (h : PS r m) : L.QS r (3 * m) := by
  have := tn_tl' m
  have h1 := h.1
  have h2 := h.2
  exact ⟨by omega, by omega⟩
theorem qs_k {r : Rat} {m K : Nat} (h : PS r m) (hK : 3 * m = K) : L.QS r K := hK ▸ qs_of h
theorem short_words' {N : Nat} (h : (decDigits N).length ≤ 4096) : (N : Int) < Tn.pw 256 := by
  have := num_pw (s := sB (decDigits N)) (dec_nat N) (by rw [sB_size]; exact h)
  rwa [sB_list, dec_num] at this
/-- What is right is a number as it is written. -/
theorem good_ok {n d : ByteArray} (h : goodE n d = 0) (hn : n.size ≤ 9223372036854775807) : ∃ r : Rat, (.agg #[.string n, .string d] : Value) = wrt r ∧ Rdy r ∧ PS r 256 ∧ ∀ x, Calls Tryz.prog 27 #[.agg #[.string n, .string d]] x (Qf r x) := by
  obtain ⟨r, e, _, _, l1, l2⟩ := good_wrt h
  refine ⟨r, e, ⟨l1, l2⟩, ⟨short_words' l1, short_words' l2⟩, fun x => ?_⟩
  unfold wrt at e
  simp only [Value.agg.injEq, Array.mk.injEq, List.cons.injEq, Value.string.injEq, and_true] at e
  obtain ⟨e1, e2⟩ := e
  refine qf_of ((In_q (r := r) x hn ?_ ?_ ?_ ?_ ?_ ?_ ?_).mono ?_)
  · rw [e1, sg_neg]
  · rw [e1, sg_rest, sB_list, dec_num]
  · rw [e2, sB_list, dec_num]
  · rw [e1, sg_rest, sB_size]; exact l1
  · rw [e2, sB_size]; exact l2
  · rw [e1, sg_rest]; exact dec_nat _
  · rw [e2]; exact dec_nat _
  · rintro e w' ⟨v, rfl, hq, _, b⟩
    exact ⟨v, rfl, hq, b⟩
theorem bne_z {c : Int} (h : c ≠ 0) : (c != 0) = true := by simpa using h
/-- One of both is not right. -/
theorem two_bad (n d m k : ByteArray) (hn : n.size ≤ 9223372036854775807) (hd : d.size ≤ 9223372036854775807) (hm : m.size ≤ 9223372036854775807) (hk : k.size ≤ 9223372036854775807) (h : goodE n d ≠ 0 ∨ goodE m k ≠ 0) : ∃ c : Int, c ≠ 0 ∧ (∀ x, Calls Tryz.prog 39 #[.agg #[.string n, .string d], .agg #[.string m, .string k]] x fun e w' => e = .returned (.tuple #[.agg #[.bool false, .slice none 0 0, .slice none 0 0], .agg #[.bool false, .slice none 0 0, .slice none 0 0], .int .i64 c]) ∧ Below x.heap.size x w') ∧ (∀ x, Calls Tryz.prog 26 #[.agg #[.string n, .string d], .agg #[.string m, .string k]] x fun e w' => e = .returned (.int .i64 c) ∧ Below x.heap.size x w') := by
  by_cases h1 : goodE n d = 0
  · have h2 : goodE m k ≠ 0 := by
      rcases h with h | h
      · exact absurd h1 h
      · exact h
    refine ⟨goodE m k, h2, fun x => ?_, fun x => ?_⟩
    · exact readTwo_e2 n d m k _ _ x (bne_z h2) (fun y _ => read_ok h1 hn hd y) (fun y _ => read_no h2 hm hk y)
    · exact two_k n d m k _ x (fun y _ => by have := Good_any n d y hn hd; rwa [h1] at this) (fun y _ => Good_any m k y hm hk)
  · refine ⟨goodE n d, h1, fun x => ?_, fun x => ?_⟩
    · exact readTwo_e1 n d m k _ x (bne_z h1) (fun y _ => read_no h1 hn hd y)
    · exact two_e n d m k _ x (bne_z h1) (fun y _ => Good_any n d y hn hd)
theorem two_good {n d m k : ByteArray} (hn : n.size ≤ 9223372036854775807) (hd : d.size ≤ 9223372036854775807) (hm : m.size ≤ 9223372036854775807) (hk : k.size ≤ 9223372036854775807) (h1 : goodE n d = 0) (h2 : goodE m k = 0) (x : World) : Calls Tryz.prog 26 #[.agg #[.string n, .string d], .agg #[.string m, .string k]] x fun e w' => e = .returned (.int .i64 0) ∧ Below x.heap.size x w' := by
  have := two_k n d m k (goodE m k) x (fun y _ => by have := Good_any n d y hn hd; rwa [h1] at this) (fun y _ => Good_any m k y hm hk)
  rwa [h2] at this
theorem ok256 : MulOK 256 256 := by unfold MulOK; omega
theorem both_Add (n d m k : ByteArray) (w : World) (hn : n.size ≤ 9223372036854775807) (hd : d.size ≤ 9223372036854775807) (hm : m.size ≤ 9223372036854775807) (hk : k.size ≤ 9223372036854775807) (G : Gw w) : ∃ (u v : ByteArray) (e : Int), (∀ x, Below w.heap.size w x → Calls Tryz.prog 11 #[.agg #[.string n, .string d], .agg #[.string m, .string k]] x fun e' w' => e' = .returned (.tuple #[.agg #[.string u, .string v], .int .i64 e]) ∧ Below x.heap.size x w') ∧ (∀ x, Below w.heap.size w x → Calls Tryz.prog 7 #[.int .i64 2, .agg #[.string n, .string d], .agg #[.string m, .string k]] x fun e' w' => e' = .returned (.tuple #[.agg #[.string u, .string v], .int .i64 e]) ∧ Below x.heap.size x w') := by
  by_cases h : goodE n d ≠ 0 ∨ goodE m k ≠ 0
  · obtain ⟨c, hc, H1, H2⟩ := two_bad n d m k hn hd hm hk h
    exact ⟨⟨#[]⟩, ⟨#[]⟩, c, fun x _ => Add_err n d m k c x (bne_z hc) (fun y _ => H1 y), fun x _ => Reckon_e n d m k 2 c x (by decide) (bne_z hc) (fun y _ => H2 y)⟩
  · have h1 : goodE n d = 0 := Classical.not_not.1 (fun z => h (Or.inl z))
    have h2 : goodE m k = 0 := Classical.not_not.1 (fun z => h (Or.inr z))
    obtain ⟨r, e1, r1, h3, I1⟩ := good_ok h1 hn
    obtain ⟨s, e2, r2, h4, I2⟩ := good_ok h2 hm
    have ps : PS (r + s) 513 := ((h3.add h4).mono (by omega))
    refine ⟨wn (r + s), wd (r + s), (wrA (r + s)).2, fun x b => ?_, fun x b => ?_⟩
    · rw [e1, e2]
      exact Add_r r1 r2 h3 h4 ok256 (by omega) x (G.grow b)
    · exact Reckon_Add n d m k r s (r + s) _ _ _ x (fun y _ => two_good hn hd hm hk h1 h2 y) (fun y _ => I1 y) (fun y _ => I2 y) (fun y v1 v2 h h' => qf_of (L.QAdd_any v1 v2 r s 768 y h h' (qs_k h3 (by decide)) (qs_k h4 (by decide)) (by decide))) (fun y v1 h => L.Out_any v1 (r + s) 1539 y h (qs_k ps (by decide)) (by decide))
theorem both_Sub (n d m k : ByteArray) (w : World) (hn : n.size ≤ 9223372036854775807) (hd : d.size ≤ 9223372036854775807) (hm : m.size ≤ 9223372036854775807) (hk : k.size ≤ 9223372036854775807) (G : Gw w) : ∃ (u v : ByteArray) (e : Int), (∀ x, Below w.heap.size w x → Calls Tryz.prog 12 #[.agg #[.string n, .string d], .agg #[.string m, .string k]] x fun e' w' => e' = .returned (.tuple #[.agg #[.string u, .string v], .int .i64 e]) ∧ Below x.heap.size x w') ∧ (∀ x, Below w.heap.size w x → Calls Tryz.prog 7 #[.int .i64 3, .agg #[.string n, .string d], .agg #[.string m, .string k]] x fun e' w' => e' = .returned (.tuple #[.agg #[.string u, .string v], .int .i64 e]) ∧ Below x.heap.size x w') := by
  by_cases h : goodE n d ≠ 0 ∨ goodE m k ≠ 0
  · obtain ⟨c, hc, H1, H2⟩ := two_bad n d m k hn hd hm hk h
    exact ⟨⟨#[]⟩, ⟨#[]⟩, c, fun x _ => Sub_err n d m k c x (bne_z hc) (fun y _ => H1 y), fun x _ => Reckon_e n d m k 3 c x (by decide) (bne_z hc) (fun y _ => H2 y)⟩
  · have h1 : goodE n d = 0 := Classical.not_not.1 (fun z => h (Or.inl z))
    have h2 : goodE m k = 0 := Classical.not_not.1 (fun z => h (Or.inr z))
    obtain ⟨r, e1, r1, h3, I1⟩ := good_ok h1 hn
    obtain ⟨s, e2, r2, h4, I2⟩ := good_ok h2 hm
    have ps : PS (r - s) 513 := (by rw [Rat.sub_eq_add_neg]; exact (h3.add h4.neg).mono (by omega))
    refine ⟨wn (r - s), wd (r - s), (wrA (r - s)).2, fun x b => ?_, fun x b => ?_⟩
    · rw [e1, e2]
      exact Sub_r r1 r2 h3 h4 ok256 (by omega) x (G.grow b)
    · exact Reckon_Sub n d m k r s (r - s) _ _ _ x (fun y _ => two_good hn hd hm hk h1 h2 y) (fun y _ => I1 y) (fun y _ => I2 y) (fun y v1 v2 h h' => QSub_q v1 v2 r s 768 y h h' (qs_k h3 (by decide)) (qs_k h4 (by decide)) (by decide)) (fun y v1 h => L.Out_any v1 (r - s) 1539 y h (qs_k ps (by decide)) (by decide))
theorem both_Mul (n d m k : ByteArray) (w : World) (hn : n.size ≤ 9223372036854775807) (hd : d.size ≤ 9223372036854775807) (hm : m.size ≤ 9223372036854775807) (hk : k.size ≤ 9223372036854775807) (G : Gw w) : ∃ (u v : ByteArray) (e : Int), (∀ x, Below w.heap.size w x → Calls Tryz.prog 13 #[.agg #[.string n, .string d], .agg #[.string m, .string k]] x fun e' w' => e' = .returned (.tuple #[.agg #[.string u, .string v], .int .i64 e]) ∧ Below x.heap.size x w') ∧ (∀ x, Below w.heap.size w x → Calls Tryz.prog 7 #[.int .i64 4, .agg #[.string n, .string d], .agg #[.string m, .string k]] x fun e' w' => e' = .returned (.tuple #[.agg #[.string u, .string v], .int .i64 e]) ∧ Below x.heap.size x w') := by
  by_cases h : goodE n d ≠ 0 ∨ goodE m k ≠ 0
  · obtain ⟨c, hc, H1, H2⟩ := two_bad n d m k hn hd hm hk h
    exact ⟨⟨#[]⟩, ⟨#[]⟩, c, fun x _ => Mul_err n d m k c x (bne_z hc) (fun y _ => H1 y), fun x _ => Reckon_e n d m k 4 c x (by decide) (bne_z hc) (fun y _ => H2 y)⟩
  · have h1 : goodE n d = 0 := Classical.not_not.1 (fun z => h (Or.inl z))
    have h2 : goodE m k = 0 := Classical.not_not.1 (fun z => h (Or.inr z))
    obtain ⟨r, e1, r1, h3, I1⟩ := good_ok h1 hn
    obtain ⟨s, e2, r2, h4, I2⟩ := good_ok h2 hm
    have ps : PS (r * s) 512 := ((h3.mul h4).mono (by omega))
    refine ⟨wn (r * s), wd (r * s), (wrA (r * s)).2, fun x b => ?_, fun x b => ?_⟩
    · rw [e1, e2]
      exact Mul_r r1 r2 h3 h4 ok256 (by omega) x (G.grow b)
    · exact Reckon_Mul n d m k r s (r * s) _ _ _ x (fun y _ => two_good hn hd hm hk h1 h2 y) (fun y _ => I1 y) (fun y _ => I2 y) (fun y v1 v2 h h' => qf_of (L.QMul_any v1 v2 r s 768 y h h' (qs_k h3 (by decide)) (qs_k h4 (by decide)) (by decide))) (fun y v1 h => L.Out_any v1 (r * s) 1536 y h (qs_k ps (by decide)) (by decide))
theorem both_Div (n d m k : ByteArray) (w : World) (hn : n.size ≤ 9223372036854775807) (hd : d.size ≤ 9223372036854775807) (hm : m.size ≤ 9223372036854775807) (hk : k.size ≤ 9223372036854775807) (G : Gw w) : ∃ (u v : ByteArray) (e : Int), (∀ x, Below w.heap.size w x → Calls Tryz.prog 14 #[.agg #[.string n, .string d], .agg #[.string m, .string k]] x fun e' w' => e' = .returned (.tuple #[.agg #[.string u, .string v], .int .i64 e]) ∧ Below x.heap.size x w') ∧ (∀ x, Below w.heap.size w x → Calls Tryz.prog 7 #[.int .i64 5, .agg #[.string n, .string d], .agg #[.string m, .string k]] x fun e' w' => e' = .returned (.tuple #[.agg #[.string u, .string v], .int .i64 e]) ∧ Below x.heap.size x w') := by
  by_cases h : goodE n d ≠ 0 ∨ goodE m k ≠ 0
  · obtain ⟨c, hc, H1, H2⟩ := two_bad n d m k hn hd hm hk h
    exact ⟨⟨#[]⟩, ⟨#[]⟩, c, fun x _ => Div_err n d m k c x (bne_z hc) (fun y _ => H1 y), fun x _ => Reckon_e n d m k 5 c x (by decide) (bne_z hc) (fun y _ => H2 y)⟩
  · have h1 : goodE n d = 0 := Classical.not_not.1 (fun z => h (Or.inl z))
    have h2 : goodE m k = 0 := Classical.not_not.1 (fun z => h (Or.inr z))
    obtain ⟨r, e1, r1, h3, I1⟩ := good_ok h1 hn
    obtain ⟨s, e2, r2, h4, I2⟩ := good_ok h2 hm
    have TW := fun y => two_good hn hd hm hk h1 h2 y
    by_cases h0 : s = 0
    · refine ⟨⟨#[]⟩, ⟨#[]⟩, 4, fun x b => ?_, fun x b => ?_⟩
      · rw [e1, e2, h0]
        exact Div_r0 r1 x
      · exact Reckon_div0 n d m k r s x (fun y _ => TW y) (fun y _ => I1 y) (fun y _ => I2 y) (fun y v1 h => by have := L.Sign_q v1 s y h; rwa [show L.sgn s = 0 by rw [h0]; decide +kernel] at this)
    · have ps : PS (r / s) 512 := by rw [Rat.div_def]; exact (h3.mul (h4.inv h0)).mono (by omega)
      have sn : (L.sgn s == 0) = false := by
        have n0 : s.num ≠ 0 := fun z => h0 (Rat.num_eq_zero.1 z)
        unfold L.sgn
        rw [if_neg n0]
        split <;> decide
      refine ⟨wn (r / s), wd (r / s), (wrA (r / s)).2, fun x b => ?_, fun x b => ?_⟩
      · rw [e1, e2]
        exact Div_r r1 r2 h3 h4 ok256 (by omega) h0 x (G.grow b)
      · exact Reckon_Div n d m k r s (r / s) _ _ _ (L.sgn s) x sn (fun y _ => TW y) (fun y _ => I1 y) (fun y _ => I2 y) (fun y v1 h => L.Sign_q v1 s y h) (fun y v1 v2 h h' => qf_of (L.QDiv_any v1 v2 r s 768 y h h' (qs_k h3 (by decide)) (qs_k h4 (by decide)) (by decide) h0)) (fun y v1 h => L.Out_any v1 (r / s) 1536 y h (qs_k ps (by decide)) (by decide))
theorem both_Neg (n d m k : ByteArray) (w : World) (hn : n.size ≤ 9223372036854775807) (hd : d.size ≤ 9223372036854775807) (hm : m.size ≤ 9223372036854775807) (hk : k.size ≤ 9223372036854775807) (G : Gw w) : ∃ (u v : ByteArray) (e : Int), (∀ x, Below w.heap.size w x → Calls Tryz.prog 6 #[.agg #[.string n, .string d]] x fun e' w' => e' = .returned (.tuple #[.agg #[.string u, .string v], .int .i64 e]) ∧ Below x.heap.size x w') ∧ (∀ x, Below w.heap.size w x → Calls Tryz.prog 7 #[.int .i64 1, .agg #[.string n, .string d], .agg #[.string m, .string k]] x fun e' w' => e' = .returned (.tuple #[.agg #[.string u, .string v], .int .i64 e]) ∧ Below x.heap.size x w') := by
  have TW : ∃ c0 : Int, ∀ x, Calls Tryz.prog 26 #[.agg #[.string n, .string d], .agg #[.string m, .string k]] x fun e w' => e = .returned (.int .i64 c0) ∧ Below x.heap.size x w' := by
    by_cases h : goodE n d ≠ 0 ∨ goodE m k ≠ 0
    · obtain ⟨c, _, _, H2⟩ := two_bad n d m k hn hd hm hk h
      exact ⟨c, H2⟩
    · exact ⟨0, fun x => two_good hn hd hm hk (Classical.not_not.1 (fun z => h (Or.inl z))) (Classical.not_not.1 (fun z => h (Or.inr z))) x⟩
  obtain ⟨c0, TW⟩ := TW
  by_cases h1 : goodE n d = 0
  · obtain ⟨r, e1, r1, h3, I1⟩ := good_ok h1 hn
    refine ⟨wn (-r), wd (-r), (wrA (-r)).2, fun x b => ?_, fun x b => ?_⟩
    · rw [e1]
      exact Neg_r r1 h3 (by omega) x (G.grow b)
    · exact Reckon_neg n d m k c0 r (-r) _ _ _ x (fun y _ => TW y) (fun y _ => by have := Good_any n d y hn hd; rwa [h1] at this) (fun y _ => I1 y) (fun y v1 h => Minus_q v1 r y h) (fun y v1 h => L.Out_any v1 (-r) 768 y h (qs_k h3.neg (by decide)) (by decide))
  · exact ⟨⟨#[]⟩, ⟨#[]⟩, goodE n d, fun x _ => Neg_err n d _ x (bne_z h1) (fun y _ => read_no h1 hn hd y), fun x _ => Reckon_e1 n d m k c0 _ x (bne_z h1) (fun y _ => TW y) (fun y _ => Good_any n d y hn hd)⟩
theorem sgn_same (r : Rat) : L.sgn r = psg r := by
  unfold L.sgn psg
  by_cases a : r.num = 0
  · rw [if_pos a, if_neg (by omega), if_pos a]
  · rw [if_neg a]
    by_cases b : r.num < 0
    · rw [if_pos b, if_pos b]
    · rw [if_neg b, if_neg b, if_neg a]
theorem both_Cmp (n d m k : ByteArray) (w : World) (hn : n.size ≤ 9223372036854775807) (hd : d.size ≤ 9223372036854775807) (hm : m.size ≤ 9223372036854775807) (hk : k.size ≤ 9223372036854775807) : ∃ z e : Int, (∀ x, Below w.heap.size w x → Calls Tryz.prog 15 #[.agg #[.string n, .string d], .agg #[.string m, .string k]] x fun e' w' => e' = .returned (.tuple #[.int .i64 z, .int .i64 e]) ∧ Below x.heap.size x w') ∧ (∀ x, Below w.heap.size w x → Calls Tryz.prog 16 #[.agg #[.string n, .string d], .agg #[.string m, .string k]] x fun e' w' => e' = .returned (.tuple #[.int .i64 z, .int .i64 e]) ∧ Below x.heap.size x w') := by
  by_cases h : goodE n d ≠ 0 ∨ goodE m k ≠ 0
  · obtain ⟨c, hc, H1, H2⟩ := two_bad n d m k hn hd hm hk h
    exact ⟨0, c, fun x _ => Cmp_err n d m k c x (bne_z hc) (fun y _ => H1 y), fun x _ => RCmp_e n d m k c x (bne_z hc) (fun y _ => H2 y)⟩
  · have h1 : goodE n d = 0 := Classical.not_not.1 (fun z => h (Or.inl z))
    have h2 : goodE m k = 0 := Classical.not_not.1 (fun z => h (Or.inr z))
    obtain ⟨r, e1, r1, h3, I1⟩ := good_ok h1 hn
    obtain ⟨s, e2, r2, h4, I2⟩ := good_ok h2 hm
    refine ⟨pcm r s, 0, fun x b => ?_, fun x b => ?_⟩
    · rw [e1, e2]
      refine Cmp_raw _ _ _ _ _ _ _ _ _ _ _ x (fun y _ => readTwo_p r s y r1.1 r1.2 r2.1 r2.2) ?_
      intro y a l c a' l' c' k1 k2 k3 k4
      exact FCmp_p _ _ r s 256 y ⟨_, _, _, _, _, _, rfl, k1, k2⟩ ⟨_, _, _, _, _, _, rfl, k3, k4⟩ h3 h4 (by decide)
    · exact RCmp_k n d m k r s _ x (fun y _ => two_good hn hd hm hk h1 h2 y) (fun y _ => I1 y) (fun y _ => I2 y) (fun y v1 v2 h h' => L.QCmp_any v1 v2 r s 768 y h h' (qs_k h3 (by decide)) (qs_k h4 (by decide)) (by decide))
theorem both_Sign (n d : ByteArray) (w : World) (hn : n.size ≤ 9223372036854775807) (hd : d.size ≤ 9223372036854775807) : ∃ z e : Int, (∀ x, Below w.heap.size w x → Calls Tryz.prog 17 #[.agg #[.string n, .string d]] x fun e' w' => e' = .returned (.tuple #[.int .i64 z, .int .i64 e]) ∧ Below x.heap.size x w') ∧ (∀ x, Below w.heap.size w x → Calls Tryz.prog 18 #[.agg #[.string n, .string d]] x fun e' w' => e' = .returned (.tuple #[.int .i64 z, .int .i64 e]) ∧ Below x.heap.size x w') := by
  by_cases h1 : goodE n d = 0
  · obtain ⟨r, e1, r1, h3, I1⟩ := good_ok h1 hn
    refine ⟨psg r, 0, fun x b => ?_, fun x b => ?_⟩
    · rw [e1]
      exact Sign_r r1 x
    · exact RSign_k n d r _ x (fun y _ => by have := Good_any n d y hn hd; rwa [h1] at this) (fun y _ => I1 y) (fun y v1 h => by have := L.Sign_q v1 r y h; rwa [sgn_same] at this)
  · exact ⟨0, goodE n d, fun x _ => Sign_err n d _ x (bne_z h1) (fun y _ => read_no h1 hn hd y), fun x _ => RSign_e n d _ x (bne_z h1) (fun y _ => Good_any n d y hn hd)⟩
end Go.Proofs.YtfalncbcomlelaaGreatDoor.Mo
