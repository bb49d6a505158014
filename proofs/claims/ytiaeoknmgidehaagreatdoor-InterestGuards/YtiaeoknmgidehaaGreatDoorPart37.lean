import Derived.Test.YtiaeoknmgidehaaGreatDoorPart34
import Derived.Test.YtiaeoknmgidehaaGreatDoorPart36
import Derived.Deep.RegionHeld3

namespace Go.Proofs.YtiaeoknmgidehaaGreatDoor.Wt
open Go.RowKit Tn Mo

theorem info_parts {P : Program} {t : TypeId} {z : Value} {s b : Nat} (h : (P.info? t).map (fun i => (i.zero, i.size, i.bytes)) = some (some z, s, b)) : ∃ i, P.info? t = some i ∧ i.zero = some z ∧ i.size = s ∧ i.bytes = b := by
  obtain ⟨i, h1, h2⟩ := Option.map_eq_some_iff.1 h
  simp only [Prod.mk.injEq] at h2
  exact ⟨i, h1, h2.1, h2.2.1, h2.2.2⟩
/-- A row of numbers of one's own: nothing else lies in its block. -/
structure Rg (w : World) (g cap : Nat) (vals : List Value) : Prop where
  blk : ∃ cur : Array Value, w.heap[g]? = some (.cells cur 57 (0, 0)) ∧ cur.size = cap ∧ cur.toList.take vals.length = vals ∧ ∀ u ∈ cur.toList, ∃ a l c, u = Value.slice a l c
  le : vals.length ≤ cap
theorem Rg.lt {w : World} {g cap : Nat} {vals : List Value} (h : Rg w g cap vals) : g < w.heap.size := by
  obtain ⟨cur, e, _⟩ := h.blk
  exact Own.lt ⟨cur, _, e⟩
theorem Rg.grow {w w' : World} {g cap : Nat} {vals : List Value} (h : Rg w g cap vals) (b : Below w.heap.size w w') : Rg w' g cap vals := by
  obtain ⟨⟨cur, e, r⟩, l⟩ := h
  exact ⟨⟨cur, (b.block g (Own.lt ⟨cur, _, e⟩)).trans e, r⟩, l⟩
theorem Rg.at {w : World} {g cap : Nat} {vals : List Value} (h : Rg w g cap vals) {i : Nat} {u : Value} (hi : vals[i]? = some u) : w.cell? ⟨g, i, none⟩ = some u := by
  obtain ⟨⟨cur, e, h1, h2, _⟩, _⟩ := h
  have c := congrArg (fun l : List Value => l[i]?) h2
  have hl : i < vals.length := by
    by_cases c : i < vals.length
    · exact c
    · rw [List.getElem?_eq_none (by omega)] at hi; cases hi
  simp only [List.getElem?_take, hl, if_true, hi, Array.getElem?_toList] at c
  simp only [World.cell?, e, Option.isSome_none, Bool.false_eq_true, if_false]
  exact c
theorem Rg.off {w : World} {g cap : Nat} {vals : List Value} (h : Rg w g cap vals) {b o : Nat} {k : IntKind} {x : Int} (hc : w.cell? ⟨b, o, none⟩ = some (.int k x)) : b ≠ g := by
  rintro rfl
  obtain ⟨⟨cur, e, _, _, h3⟩, _⟩ := h
  simp only [World.cell?, e, Option.isSome_none, Bool.false_eq_true, if_false] at hc
  rw [← Array.getElem?_toList] at hc
  obtain ⟨a, l, c, q⟩ := h3 _ (List.mem_of_getElem? hc)
  cases q
theorem Nn.row {w w' : World} {g cap : Nat} {vals : List Value} {a : Option Addr} {l c : Nat} {N : Int} (h : Nn w a l c N) (R : Rg w g cap vals) (gr : w.grownBy w' (some g)) : Nn w' a l c N := by
  obtain ⟨xs, ⟨hW, a1, c1, e, h1, h2, h3⟩, n, rfl⟩ := h
  refine ⟨xs, ⟨hW, a1, c1, e, h1, h2, fun lt => ?_⟩, n, rfl⟩
  obtain ⟨b, o, e2, q⟩ := h3 lt
  refine ⟨b, o, e2, fun i hi => gr.cell (q i hi) fun e => ?_⟩
  simp only [Option.some.injEq] at e
  exact R.off (q i hi) e
/-- append(rungs, r). -/
theorem run_rung {w : World} (ty : Nat) (g cap : Nat) (vals : List Value) (R : Rg w g cap vals) (ad c : Nat) (u1 : Option Addr) (u2 u3 : Nat) (hc : w.cell? ⟨ad, 0, none⟩ = some (.slice u1 u2 u3)) (hn : vals.length ≤ 1000) (hcm : cap ≤ maxLen) :
    ∃ g' cap' w', (Builtin.append_ #[105, 105] ty #[.slice (some ⟨g, 0, none⟩) vals.length cap, .slice (some ⟨ad, 0, none⟩) 1 c]).run Tryz.prog w = .ok (.slice (some ⟨g', 0, none⟩) (vals.length + 1) cap') w' ∧ Rg w' g' cap' (vals ++ [.slice u1 u2 u3]) ∧ w.grownBy w' (some g) ∧ cap' ≤ maxLen ∧ (g' = g ∨ w.heap.size ≤ g') := by
  obtain ⟨i, hi, hz0, hz1, hz2⟩ := info_parts (show (Tryz.prog.info? 57).map (fun i => (i.zero, i.size, i.bytes)) = some (some (.agg #[.slice none 0 0]), 1, 24) by kernel_rfl)
  have ht : Tryz.prog.underlying 105 = some (.slice 57) := by kernel_rfl
  have R' := R
  obtain ⟨⟨cur, e, h1, h2, h3⟩, hl⟩ := R
  have hnews : ∀ (j : Nat) (u : Value), [Value.slice u1 u2 u3][j]? = some u → w.cell? ((⟨ad, 0, none⟩ : Addr).add j) = some u := by
    intro j u hj
    match j, hj with
    | 0, hj => simp at hj; subst hj; simpa [Addr.add] using hc
    | j + 1, hj => simp at hj
  by_cases hroom : vals.length + 1 ≤ cap
  · have hr := run_append_room (P := Tryz.prog) w 105 ty 57 i ht hi g vals.length cap cur e ⟨ad, 0, none⟩ 1 c [.slice u1 u2 u3] (by simp [hz1]) hnews (by intro u hu; simp at hu; subst hu; rfl) hroom (by simp [hz1]; omega)
    rw [hz1, Nat.mul_one] at hr
    refine ⟨g, cap, _, hr, ⟨⟨_, setRow_heap w g cur _ 57 _ e, ?_, ?_, ?_⟩, by simp; omega⟩, ⟨rfl, rfl, rfl, by simp, fun k _ hk => setRow_other w g k _ (fun e => hk (by rw [e]))⟩, hcm, Or.inl rfl⟩
    · simp only [List.size_toArray, List.length_append, List.length_take, List.length_drop, Array.length_toList, List.length_cons, List.length_nil]
      omega
    · rw [h2]
      exact List.take_left
    · intro u hu
      simp only [List.mem_append, List.mem_singleton] at hu
      rcases hu with (hu | rfl) | hu
      · exact h3 u (List.mem_of_mem_take hu)
      · exact ⟨_, _, _, rfl⟩
      · exact h3 u (List.mem_of_mem_drop hu)
  · have holds : ∀ (j : Nat) (u : Value), vals[j]? = some u → w.cell? ((⟨g, 0, none⟩ : Addr).add j) = some u := fun j u hj => by
      rw [Addr.add_lit, Nat.zero_add]
      exact R'.at hj
    have hr := run_append_grow (P := Tryz.prog) w 105 ty 57 i (.agg #[.slice none 0 0]) ht hi hz0 ⟨g, 0, none⟩ vals.length cap vals (by rw [hz1, Nat.mul_one]) holds ⟨ad, 0, none⟩ 1 c [.slice u1 u2 u3] (by simp [hz1]) hnews (by omega) (by omega) (by rw [hz2]; exact growslice_fits (by omega) (by omega))
    have gc := grownCap_ge w (vals.length + 1) cap 57
    have gm := grownCap_le_maxLen w (vals.length + 1) cap 57 (by unfold maxLen; omega)
    refine ⟨_, _, _, hr, ⟨⟨_, heap_alloc_new _ _, ?_, ?_, ?_⟩, by simp; exact gc⟩, ⟨rfl, rfl, rfl, by simp, fun k hk _ => heap_alloc_old w.drew _ hk⟩, gm, Or.inr (Nat.le_refl _)⟩
    · simp only [Array.size_append, List.size_toArray, List.length_cons, List.length_nil, size_zeroCells, Value.cells]
      simp
      omega
    · rw [Array.toList_append, Array.toList_append]
      exact List.take_left
    · intro u hu
      simp only [Array.toList_append, List.mem_append, List.mem_singleton] at hu
      rcases hu with (hu | rfl) | hu
      · exact h3 u (by rw [← h2] at hu; exact List.mem_of_mem_take hu)
      · exact ⟨_, _, _, rfl⟩
      · simp only [Builtin.zeroCells, Value.cells] at hu
        have : u = .slice none 0 0 := by
          simp at hu
          obtain ⟨j, _, rfl⟩ := hu
          simp [Nat.mod_one]
        exact ⟨_, _, _, this⟩
theorem wpList_rung {w : World} {ops : Array Oper} {rest : List Oper} {o : Oper} {a : Act} {Q : Exit → Act → World → Prop} (hgd : o.guard = none) (s x : Operand)
    (ho : o.op = .call { callee := .builtin .append, args := #[s, x], argTypes := #[105, 105] })
    (g cap n : Nat) (vals : List Value) (en : n = vals.length) (hs : a.eval s = .slice (some ⟨g, 0, none⟩) n cap) (R : Rg w g cap vals) (ad c : Nat) (u1 : Option Addr) (u2 u3 : Nat) (hx : a.eval x = .slice (some ⟨ad, 0, none⟩) 1 c) (hc : w.cell? ⟨ad, 0, none⟩ = some (.slice u1 u2 u3)) (hn : vals.length ≤ 1000) (hcm : cap ≤ maxLen)
    (h : ∀ g' cap' w', Rg w' g' cap' (vals ++ [.slice u1 u2 u3]) → w.grownBy w' (some g) → cap' ≤ maxLen → (g' = g ∨ w.heap.size ≤ g') → wpList Tryz.prog ops Q rest (a.put o.dst (.slice (some ⟨g', 0, none⟩) (n + 1) cap')) w') : wpList Tryz.prog ops Q (o :: rest) a w := by
  subst en
  obtain ⟨g', cap', w', hr, h1, h2, h3, h4⟩ := run_rung (w := w) o.type g cap vals R ad c u1 u2 u3 hc hn hcm
  refine wpList_plain hgd fun K hK => ?_
  unfold Oper.wp execOp
  simp only [ho, resolve, invoke, builtin, Sem.run_bind, Sem.run_pure, Result.andThen_ok, List.map_toArray, List.map_cons, List.map_nil, hs, hx, hr]
  exact hK _ _ (h g' cap' w' h1 h2 h3 h4)
end Go.Proofs.YtiaeoknmgidehaaGreatDoor.Wt

namespace Go.Proofs.YtiaeoknmgidehaaGreatDoor.Wt
open Go.RowKit Tn Mo

/-- The i-th rung. -/
def rung (i : Nat) : Nat := (10 ^ 19) ^ (2 ^ i)
theorem rung_pos (i : Nat) : 0 < rung i := Nat.pow_pos (Nat.pow_pos (by decide))
theorem rung_next (i : Nat) : rung (i + 1) = rung i * rung i := by
  unfold rung
  have e : 2 ^ (i + 1) = 2 ^ i + 2 ^ i := by rw [Nat.pow_succ]; omega
  rw [e, Nat.pow_add]
theorem rung_mono {i j : Nat} (h : i ≤ j) : rung i ≤ rung j := Nat.pow_le_pow_right (by decide) (Nat.pow_le_pow_right (by decide) h)
theorem rung_7 : 2 ^ 8078 ≤ rung 7 := by unfold rung; decide +kernel
theorem rung_6 : rung 6 < 2 ^ (64 * 64) := by unfold rung; decide +kernel
theorem rung_8 : rung 7 < 2 ^ (64 * 128) := by unfold rung; decide +kernel
theorem nb_spec (V : Nat) : V < 2 ^ nb V ∧ (nb V = 0 ∨ 2 ^ (nb V - 1) ≤ V) := by
  by_cases h : V = 0
  · subst h
    have : nb 0 = 0 := by
      have := nb_le (V := 0) (k := 0) (by decide)
      omega
    rw [this]
    exact ⟨by decide, Or.inl rfl⟩
  · obtain ⟨L, h1, h2⟩ : ∃ L, V < 2 ^ L ∧ 2 ^ (L - 1) ≤ V := by
      refine ⟨V.log2 + 1, Nat.lt_log2_self, ?_⟩
      rw [Nat.add_sub_cancel]
      exact Nat.log2_self_le h
    have e := nb_eq h1 (Or.inr h2)
    rw [← e]
    exact ⟨h1, Or.inr h2⟩
/-- If the square of the topmost rung is longer than A, A is below it. -/
theorem below_square {A k : Nat} (h : nb A < 2 * nb (rung k) - 1) : A < rung (k + 1) := by
  obtain ⟨h1, _⟩ := nb_spec A
  obtain ⟨_, h2⟩ := nb_spec (rung k)
  rcases h2 with h2 | h2
  · rw [h2] at h; omega
  · have e : nb A ≤ (nb (rung k) - 1) + (nb (rung k) - 1) := by omega
    have p : (2 : Nat) ^ nb A ≤ 2 ^ (nb (rung k) - 1) * 2 ^ (nb (rung k) - 1) := by rw [← Nat.pow_add]; exact Nat.pow_le_pow_right (by decide) e
    have q : 2 ^ (nb (rung k) - 1) * 2 ^ (nb (rung k) - 1) ≤ rung k * rung k := Nat.mul_le_mul h2 h2
    rw [rung_next]
    omega
/-- While it is not, few rungs stand. -/
theorem few_rungs {A k : Nat} (hA : nb A ≤ 16000) (h : ¬ nb A < 2 * nb (rung k) - 1) : k ≤ 6 := by
  by_cases c : k ≤ 6
  · exact c
  · exfalso
    have m := rung_mono (show 7 ≤ k by omega)
    have := rung_7
    obtain ⟨h1, _⟩ := nb_spec (rung k)
    have : (2 : Nat) ^ 8078 < 2 ^ nb (rung k) := by omega
    have := (Nat.pow_lt_pow_iff_right (show 1 < 2 by decide)).1 this
    omega
theorem nb_rung {k : Nat} (h : k ≤ 7) : nb (rung k) ≤ 8192 := by
  have := nb_le (k := 64 * 128) (Nat.lt_of_le_of_lt (rung_mono h) rung_8)
  omega
theorem pw_two (n : Nat) : pw n = (2 : Int) ^ (64 * n) := by
  induction n with
  | zero => rfl
  | succ n ih =>
    show 18446744073709551616 * pw n = _
    rw [ih, show 64 * (n + 1) = 64 * n + 64 by omega, Int.pow_add, Int.mul_comm]
    rfl
theorem lt_cast {a n : Nat} (h : a < 2 ^ n) : (a : Int) < (2 : Int) ^ n := by
  have := Int.ofNat_lt.2 h
  rw [Int.natCast_pow] at this
  exact this
theorem rung_pw {k : Nat} (h : k ≤ 7) : ((rung k : Nat) : Int) < pw 128 := by
  have := rung_mono h
  rw [pw_two]
  exact lt_cast (Nat.lt_of_le_of_lt this rung_8)
theorem rung_pw6 {k : Nat} (h : k ≤ 6) : ((rung k : Nat) : Int) < pw 64 := by
  have := rung_mono h
  rw [pw_two]
  exact lt_cast (Nat.lt_of_le_of_lt this rung_6)
/-- The rungs as they stand. -/
structure Lr (w wr : World) (g cap k : Nat) (vals : List Value) : Prop where
  R : Rg wr g cap vals
  cm : cap ≤ maxLen
  len : vals.length = k
  v : ∀ i, i < k → ∃ a l c, vals[i]? = some (.slice a l c) ∧ Nn wr a l c ((rung i : Nat) : Int)
  bel : Below w.heap.size w wr
  ge : w.heap.size < g
end Go.Proofs.YtiaeoknmgidehaaGreatDoor.Wt

namespace Go.Proofs.YtiaeoknmgidehaaGreatDoor.Wt
open Go.RowKit Tn Mo

theorem Lr.next {w wr x x2 : World} {g cap k g' cap' : Nat} {vals : List Value} (h : Lr w wr g cap k vals) (b : Below wr.heap.size wr x) (gr : x.grownBy x2 (some g)) {a : Option Addr} {l c : Nat} (hn : Nn x a l c ((rung k : Nat) : Int)) (R : Rg x2 g' cap' (vals ++ [.slice a l c])) (hc : cap' ≤ maxLen) (hg : g' = g ∨ x.heap.size ≤ g') : Lr w x2 g' cap' (k + 1) (vals ++ [.slice a l c]) := by
  have R1 := h.R.grow b
  refine ⟨R, hc, by rw [List.length_append, h.len]; rfl, fun i hi => ?_, ?_, ?_⟩
  · by_cases e : i = k
    · subst e
      exact ⟨a, l, c, by rw [List.getElem?_append_right (by rw [h.len]; exact Nat.le_refl _), h.len]; simp, Nn.row hn R1 gr⟩
    · obtain ⟨a1, l1, c1, e1, n1⟩ := h.v i (by omega)
      exact ⟨a1, l1, c1, by rw [List.getElem?_append_left (by rw [h.len]; omega)]; exact e1, Nn.row (n1.grow b) R1 gr⟩
  · have s1 := h.bel.size
    have s2 := b.size
    have ge := h.ge
    refine (h.bel.trans (b.mono s1)).trans ⟨gr.os, gr.tape, gr.output, gr.size, fun j hj => gr.block j (by omega) (fun e => ?_)⟩
    simp only [Option.some.injEq] at e
    omega
  · have s1 := h.bel.size
    have s2 := b.size
    have ge := h.ge
    rcases hg with rfl | hg
    · exact ge
    · have := h.R.lt
      omega
theorem Lr.grow {w wr x : World} {g cap k : Nat} {vals : List Value} (h : Lr w wr g cap k vals) (b : Below wr.heap.size wr x) : Lr w x g cap k vals :=
  ⟨h.R.grow b, h.cm, h.len, fun i hi => by obtain ⟨a, l, c, e, n⟩ := h.v i hi; exact ⟨a, l, c, e, n.grow b⟩, bel' h.bel b, h.ge⟩
def slenV : Value → Nat | .slice _ n _ => n | _ => 0
set_option maxRecDepth 100000 in
set_option maxHeartbeats 3200000 in
theorem ladder_any (p : Option Addr) (l c A : Nat) (w : World) (hA : Nn w p l c (A : Int)) (hb : nb A ≤ 16000) (hAp : (A : Int) < pw 1000000) :
    Calls Tryz.prog 124 #[.agg #[.slice p l c]] w fun e w' => ∃ g cap k vals, e = .returned (.slice (some ⟨g, 0, none⟩) k cap) ∧ 1 ≤ k ∧ k ≤ 8 ∧ k ≤ cap ∧ A < rung k ∧ Lr w w' g cap k vals := by
  have B0 := Bx.new w (.slice p l c) 57
  have al := (Below.refl w.heap.size w).alloc (Nat.le_refl _) (.cells #[.slice p l c] 57)
  have OF := Of_any 10000000000000000000
  go_enter Tryz.func124, Tryz.ntmps124
  go_wp2_with (first
    | (go_at_call 71; go_must (refine (OF _ (by decide) (by decide)).mono ?_; rintro e w1 ⟨r, zs, rfl, q1, n1, v1, b1⟩; obtain ⟨a1, l1, c1, rfl⟩ := q1.shape))
    | fail)
  have b2 := bel' al b1
  have K1 := Blk.new w1 #[.slice a1 l1 c1] 57
  have al1 := (Below.refl w1.heap.size w1).alloc (Nat.le_refl _) (.cells #[.slice a1 l1 c1] 57)
  have L0 : Lr w (w1.alloc (.cells #[.slice a1 l1 c1] 57)) w1.heap.size 1 1 [.slice a1 l1 c1] := by
    refine ⟨⟨⟨_, K1, rfl, rfl, fun u hu => ⟨a1, l1, c1, by simpa using hu⟩⟩, Nat.le_refl _⟩, by decide, rfl, fun i hi => ?_, bel' b2 al1, (by have := b1.size; simp at this; omega)⟩
    obtain rfl : i = 0 := by omega
    refine ⟨a1, l1, c1, rfl, Nn.grow ⟨zs, q1, n1, ?_⟩ al1⟩
    rw [v1]; decide
  have BA := (B0.below b1).below al1
  generalize w1.alloc (.cells #[.slice a1 l1 c1] 57) = W at *
  clear OF q1 n1 v1 b1 b2 K1 al1
  go_loopw [3] (fun v wr => ∃ (g cap k : Nat) (vals : List Value), v = .slice (some ⟨g, 0, none⟩) k cap ∧ 1 ≤ k ∧ k ≤ 8 ∧ Lr w wr g cap k vals ∧ Bx wr w.heap.size (.slice p l c)) (fun v _ => 9 - slenV v)
  case atStart => exact ⟨_, _, 1, _, rfl, by decide, by decide, L0, BA⟩
  case round =>
    clear L0 BA B0
    obtain ⟨g, cap, k, vals, rfl, hk1, hk8, LR, BA⟩ := hrel
    obtain ⟨j, hj⟩ : ∃ j, k = j + 1 := ⟨k - 1, by omega⟩
    obtain ⟨ta, tl, tc, ev, nT⟩ := LR.v j (by omega)
    have ct := LR.R.at ev
    have lg := LR.R.lt
    have x1 : IntKind.i64.wrap ((k : Int) - 1) = (j : Int) := by rw [show (k : Int) - 1 = (j : Int) by omega]; exact wrapI _ (by omega) (by omega)
    have y0 : (0 : Int) ≤ (j : Int) := by omega
    have y1 : ((j : Int)).toNat = j := by omega
    have y2 : (j : Int) < (k : Int) := by omega
    have bT := (Below.refl wr.heap.size wr).alloc (Nat.le_refl _) (.cells #[.slice ta tl tc] 57)
    have KT := Bx.new wr (.slice ta tl tc) 57
    have KA := BA.below bT
    have nT1 := nT.grow bT
    have nA1 := (hA.grow LR.bel).grow bT
    have hj7 : j ≤ 7 := by omega
    obtain ⟨tb, htb⟩ : ∃ t, nb (rung j) = t := ⟨_, rfl⟩
    obtain ⟨ab, hab⟩ : ∃ t, nb A = t := ⟨_, rfl⟩
    have tb8 : tb ≤ 8192 := by rw [← htb]; exact nb_rung hj7
    have CT := fun (x : World) (b : Below (wr.alloc (.cells #[.slice ta tl tc] 57)).heap.size (wr.alloc (.cells #[.slice ta tl tc] 57)) x) => BitLen_n (nT1.grow b) (rung_pw hj7) (by decide)
    have CA := fun (x : World) (b : Below (wr.alloc (.cells #[.slice ta tl tc] 57)).heap.size (wr.alloc (.cells #[.slice ta tl tc] 57)) x) => BitLen_n (nA1.grow b) hAp (by decide)
    rw [htb] at CT
    rw [hab] at CA hb
    have x2 : IntKind.i64.wrap (2 * (tb : Int)) = 2 * (tb : Int) := wrapI _ (by omega) (by omega)
    obtain ⟨Z, hZ⟩ : ∃ Z : Int, 2 * (tb : Int) - 1 = Z := ⟨_, rfl⟩
    have x3 : IntKind.i64.wrap (2 * (tb : Int) - 1) = Z := by rw [hZ]; exact wrapI _ (by omega) (by omega)
    have HS : Hid (Lr w wr g cap k vals) := LR
    have HJ : Hid (k = j + 1) := hj
    clear LR nT hj
    go_wp2_with fail
    generalize wr.alloc (.cells #[.slice ta tl tc] 57) = W1 at *
    have t0 := KT.1
    have t1 := KA.1
    have lT := KT.lt
    have lA := KA.lt
    have CT0 := CT W1.drew ((Below.refl _ _).drew)
    by_cases hgt : ab < 2 * tb - 1
    · have hgt' : (ab : Int) < Z := by omega
      have hlt := below_square (A := A) (k := j) (by rw [hab, htb]; exact hgt)
      clear hgt hZ
      go_region_held3 (fun x => x.cell? ⟨wr.heap.size, 0, none⟩ = some (.slice ta tl tc) ∧ x.cell? ⟨w.heap.size, 0, none⟩ = some (.slice p l c)) (go_keep) (first
        | (go_at_call 93; refine (CA w5 (bel' (Below.refl _ _).drew b5)).mono ?_; rintro e w6 ⟨rfl, b6⟩; have s2 := (b6.cell (p := ⟨wr.heap.size, 0, none⟩) (lt_of_cell s0)).trans s0; have s3 := (b6.cell (p := ⟨w.heap.size, 0, none⟩) (lt_of_cell s1)).trans s1)
        | (go_at_call 93; refine CT0.mono ?_; rintro e w5 ⟨rfl, b5⟩; have s0 := (b5.cell (p := ⟨wr.heap.size, 0, none⟩) lT).trans t0; have s1 := (b5.cell (p := ⟨w.heap.size, 0, none⟩) lA).trans t1)
        | fail)
      all_goals
        have b7 := bel' (bel' bT (bel' (Below.refl _ _).drew b5)) b6
        have LE := HS.out.grow b7
        have hkc : k ≤ cap := by have := HS.out.R.le; rw [HS.out.len] at this; exact this
        clear HS CT CA CT0
        go_wp2
        go_ret
        exact ⟨g, cap, k, vals, rfl, hk1, hk8, hkc, by rw [HJ.out]; exact hlt, LE⟩
    · have hgt' : ¬ (ab : Int) < Z := by omega
      have hj6 := few_rungs (A := A) (k := j) (by rw [hab]; exact hb) (by rw [hab, htb]; exact hgt)
      clear hgt hZ
      go_region_held3 (fun x => x.cell? ⟨wr.heap.size, 0, none⟩ = some (.slice ta tl tc) ∧ x.cell? ⟨w.heap.size, 0, none⟩ = some (.slice p l c)) (go_keep) (first
        | (go_at_call 93; refine (CA w5 (bel' (Below.refl _ _).drew b5)).mono ?_; rintro e w6 ⟨rfl, b6⟩; have s2 := (b6.cell (p := ⟨wr.heap.size, 0, none⟩) (lt_of_cell s0)).trans s0; have s3 := (b6.cell (p := ⟨w.heap.size, 0, none⟩) (lt_of_cell s1)).trans s1)
        | (go_at_call 93; refine CT0.mono ?_; rintro e w5 ⟨rfl, b5⟩; have s0 := (b5.cell (p := ⟨wr.heap.size, 0, none⟩) lT).trans t0; have s1 := (b5.cell (p := ⟨w.heap.size, 0, none⟩) lA).trans t1)
        | fail)
      all_goals
        have b7 := bel' (bel' bT (bel' (Below.refl _ _).drew b5)) b6
        have nT2 := (nT1.grow (bel' (Below.refl _ _).drew b5)).grow b6
        have MU := Mul_n nT2 nT2 (rung_pw6 hj6) (rung_pw6 hj6) (by unfold MulOK; omega)
        rw [show ((rung j : Nat) : Int) * ((rung j : Nat) : Int) = ((rung k : Nat) : Int) by rw [HJ.out, rung_next]; simp] at MU
        have LE := HS.out.grow b7
        clear HS CT CA CT0 hAp hb nT2 nT1 nA1 x2 x3 tb8
        go_wp2_with (first
          | (go_at_call 69; go_must (refine MU.mono ?_; rintro e w7 ⟨ma, ml, mc, rfl, nM, b8⟩; (have b9 := (bel' b8 ((Below.refl w7.heap.size w7).alloc (Nat.le_refl _) (.cells #[.slice ma ml mc] 57)))); (have LF := LE.grow b9); (have c9 : (w7.alloc (.cells #[.slice ma ml mc] 57)).cell? ⟨w7.heap.size, 0, none⟩ = some (.slice ma ml mc) := by simp)))
          | (at_builtin; go_must (refine wpList_rung rfl _ _ rfl g cap k vals LF.len.symm rfl LF.R w7.heap.size 1 ma ml mc rfl c9 (by rw [LF.len]; exact Nat.le_trans hk8 (by decide)) LF.cm ?_; intro g2 cap2 w8 R8 gr8 cm8 gg8))
          | fail)
        have NX := LE.next b9 gr8 (nM.grow ((Below.refl _ _).alloc (Nat.le_refl _) _)) R8 cm8 gg8
        have BA8 : Bx w8 w.heap.size (.slice p l c) := (BA.below (bel' b7 b9)).blocks (gr8.block _ (Nat.lt_of_lt_of_le BA.lt (bel' b7 b9).size) (fun e => by
          simp only [Option.some.injEq] at e
          have := LF.ge
          omega))
        go_roundw
        case rel => exact ⟨g2, cap2, k + 1, _, by go_num, by omega, (by have := HJ.out; omega), NX, BA8⟩
        case measure => simp [slenV]; omega
end Go.Proofs.YtiaeoknmgidehaaGreatDoor.Wt

namespace Go.Proofs.YtiaeoknmgidehaaGreatDoor.Mo
open Go.RowKit Tn Dc

theorem quot_small (p q : Int) (hq : q ≠ 0) (hp : p.natAbs < 18446744073709551616) (hq' : q.natAbs < 18446744073709551616) : PS ((p : Rat) * ((q : Rat))⁻¹) 1 := by
  have q0 : (q : Rat) ≠ 0 := by simpa using hq
  obtain ⟨i1, i2, i3⟩ := inv_num (q : Rat) q0
  obtain ⟨t1, t2, _⟩ := times_low (p : Rat) ((q : Rat))⁻¹ _ _ rfl rfl
  have p1 : pw 1 = 18446744073709551616 := by decide
  have n1 : ((p : Rat)).num = p := rfl
  have d1 : ((p : Rat)).den = 1 := rfl
  have n2 : ((q : Rat)).num = q := rfl
  have d2 : ((q : Rat)).den = 1 := rfl
  rw [i2, i3, n1, d1, n2, d2] at t1 t2
  have g : (Int.gcd ((1 : Nat) : Int) ((1 : Nat) : Int) : Int) = 1 := by decide
  rw [g] at t1 t2
  unfold PS
  rw [t1, t2, p1]
  have a := Int.ediv_le_self (Int.gcd (p.natAbs : Int) (q.natAbs : Int) : Int) (show (0 : Int) ≤ (p.natAbs : Int) by omega)
  have b := Int.ediv_le_self (Int.gcd (p.natAbs : Int) (q.natAbs : Int) : Int) (show (0 : Int) ≤ (q.natAbs : Int) by omega)
  constructor
  · rw [show ((1 : Nat) : Int) / 1 = 1 by decide, Int.mul_one]; omega
  · rw [show ((1 : Nat) : Int) / 1 = 1 by decide, Int.one_mul]; omega
theorem int_ps (k : Int) (h : k.natAbs < 18446744073709551616) : PS (k : Rat) 1 := by
  have p1 : pw 1 = 18446744073709551616 := by decide
  have n1 : ((k : Rat)).num = k := rfl
  have d1 : ((k : Rat)).den = 1 := rfl
  unfold PS
  rw [n1, d1, p1]
  exact ⟨by omega, by decide⟩
theorem inv_ps {r : Rat} {m : Nat} (h : PS r m) (h0 : r ≠ 0) : PS r⁻¹ m := by
  obtain ⟨_, i2, i3⟩ := inv_num r h0
  unfold PS
  rw [i2, i3]
  exact ⟨h.2, h.1⟩
end Go.Proofs.YtiaeoknmgidehaaGreatDoor.Mo

namespace Go.Proofs.YtiaeoknmgidehaaGreatDoor.Mo
open Go.RowKit Fu Tn Go.Lib

end Go.Proofs.YtiaeoknmgidehaaGreatDoor.Mo
