import Derived.Test.YtpmgbmafibkgnaaGreatDoorPart36
import Derived.Test.YtpmgbmafibkgnaaGreatDoorPart30
import Derived.Deep.RegionHeld3
import Derived.Test.YtpmgbmafibkgnaaGreatDoorPart33
import Derived.Test.YtpmgbmafibkgnaaGreatDoorShelf
import Derived.Test.YtpmgbmafibkgnaaGreatDoorPart34

namespace Go.Proofs.YtpmgbmafibkgnaaGreatDoor.Wt
open Go.RowKit Tn Mo

theorem info_parts {P : Program} {t : TypeId} {z : Value} {s b : Nat} (h : (P.info? t).map (fun i => (i.zero, i.size, i.bytes)) = some (some z, s, b)) : ∃ i, P.info? t = some i ∧ i.zero = some z ∧ i.size = s ∧ i.bytes = b := by
  obtain ⟨i, h1, h2⟩ := Option.map_eq_some_iff.1 h
  simp only [Prod.mk.injEq] at h2
  exact ⟨i, h1, h2.1, h2.2.1, h2.2.2⟩
/-- A row of numbers of one's own: nothing else lies in its block. -/
structure Rg (w : World) (g cap : Nat) (vals : List Value) : Prop where
  blk : ∃ cur : Array Value, w.heap[g]? = some (.cells cur 39 (0, 0)) ∧ cur.size = cap ∧ cur.toList.take vals.length = vals ∧ ∀ u ∈ cur.toList, ∃ a l c, u = Value.slice a l c
  le : vals.length ≤ cap
theorem Rg.lt {w : World} {g cap : Nat} {vals : List Value} (h : Rg w g cap vals) : g < w.heap.size := by
  obtain ⟨cur, e, _⟩ := h.blk
  exact Own.lt ⟨cur, _, e⟩
theorem Rg.grow {w w' : World} {g cap : Nat} {vals : List Value} (h : Rg w g cap vals) (b : Below w.heap.size w w') : Rg w' g cap vals := by
  obtain ⟨⟨cur, e, r⟩, l⟩ := h
  exact ⟨⟨cur, (b.block g (Own.lt ⟨cur, _, e⟩)).trans e, r⟩, l⟩
theorem Rg.at {w : World} {g cap : Nat} {vals : List Value} (h : Rg w g cap vals) {i : Nat} {u : Value} (hi : vals[i]? = some u) : w.cell? ⟨g, i, none⟩ = some u := by
  obtain ⟨⟨cur, e, h1, h2, _⟩, _⟩ := h
  have c := congrArg (fun l : List Value => l[i]?) h2
  have hl : i < vals.length := by
    by_cases c : i < vals.length
    · exact c
    · rw [List.getElem?_eq_none (by omega)] at hi; cases hi
  simp only [List.getElem?_take, hl, if_true, hi, Array.getElem?_toList] at c
  simp only [World.cell?, e, Option.isSome_none, Bool.false_eq_true, if_false]
  exact c
theorem Rg.off {w : World} {g cap : Nat} {vals : List Value} (h : Rg w g cap vals) {b o : Nat} {k : IntKind} {x : Int} (hc : w.cell? ⟨b, o, none⟩ = some (.int k x)) : b ≠ g := by
  rintro rfl
  obtain ⟨⟨cur, e, _, _, h3⟩, _⟩ := h
  simp only [World.cell?, e, Option.isSome_none, Bool.false_eq_true, if_false] at hc
  rw [← Array.getElem?_toList] at hc
  obtain ⟨a, l, c, q⟩ := h3 _ (List.mem_of_getElem? hc)
  cases q
theorem Nn.row {w w' : World} {g cap : Nat} {vals : List Value} {a : Option Addr} {l c : Nat} {N : Int} (h : Nn w a l c N) (R : Rg w g cap vals) (gr : w.grownBy w' (some g)) : Nn w' a l c N := by
  obtain ⟨xs, ⟨hW, a1, c1, e, h1, h2, h3⟩, n, rfl⟩ := h
  refine ⟨xs, ⟨hW, a1, c1, e, h1, h2, fun lt => ?_⟩, n, rfl⟩
  obtain ⟨b, o, e2, q⟩ := h3 lt
  refine ⟨b, o, e2, fun i hi => gr.cell (q i hi) fun e => ?_⟩
  simp only [Option.some.injEq] at e
  exact R.off (q i hi) e
/-- append(rungs, r). -/
theorem run_rung {w : World} (ty : Nat) (g cap : Nat) (vals : List Value) (R : Rg w g cap vals) (ad c : Nat) (u1 : Option Addr) (u2 u3 : Nat) (hc : w.cell? ⟨ad, 0, none⟩ = some (.slice u1 u2 u3)) (hn : vals.length ≤ 1000) (hcm : cap ≤ maxLen) :
    ∃ g' cap' w', (Builtin.append_ #[82, 82] ty #[.slice (some ⟨g, 0, none⟩) vals.length cap, .slice (some ⟨ad, 0, none⟩) 1 c]).run Tryz.prog w = .ok (.slice (some ⟨g', 0, none⟩) (vals.length + 1) cap') w' ∧ Rg w' g' cap' (vals ++ [.slice u1 u2 u3]) ∧ w.grownBy w' (some g) ∧ cap' ≤ maxLen ∧ (g' = g ∨ w.heap.size ≤ g') := by
  obtain ⟨i, hi, hz0, hz1, hz2⟩ := info_parts (show (Tryz.prog.info? 39).map (fun i => (i.zero, i.size, i.bytes)) = some (some (.agg #[.slice none 0 0]), 1, 24) by kernel_rfl)
  have ht : Tryz.prog.underlying 82 = some (.slice 39) := by kernel_rfl
  have R' := R
  obtain ⟨⟨cur, e, h1, h2, h3⟩, hl⟩ := R
  have hnews : ∀ (j : Nat) (u : Value), [Value.slice u1 u2 u3][j]? = some u → w.cell? ((⟨ad, 0, none⟩ : Addr).add j) = some u := by
    intro j u hj
    match j, hj with
    | 0, hj => simp at hj; subst hj; simpa [Addr.add] using hc
    | j + 1, hj => simp at hj
  by_cases hroom : vals.length + 1 ≤ cap
  · have hr := run_append_room (P := Tryz.prog) w 82 ty 39 i ht hi g vals.length cap cur e ⟨ad, 0, none⟩ 1 c [.slice u1 u2 u3] (by simp [hz1]) hnews (by intro u hu; simp at hu; subst hu; rfl) hroom (by simp [hz1]; omega)
    rw [hz1, Nat.mul_one] at hr
    refine ⟨g, cap, _, hr, ⟨⟨_, setRow_heap w g cur _ 39 _ e, ?_, ?_, ?_⟩, by simp; omega⟩, ⟨rfl, rfl, rfl, by simp, fun k _ hk => setRow_other w g k _ (fun e => hk (by rw [e]))⟩, hcm, Or.inl rfl⟩
    · simp only [List.size_toArray, List.length_append, List.length_take, List.length_drop, Array.length_toList, List.length_cons, List.length_nil]
      omega
    · rw [h2]
      exact List.take_left
    · intro u hu
      simp only [List.mem_append, List.mem_singleton] at hu
      rcases hu with (hu | rfl) | hu
      · exact h3 u (List.mem_of_mem_take hu)
      · exact ⟨_, _, _, rfl⟩
      · exact h3 u (List.mem_of_mem_drop hu)
  · have holds : ∀ (j : Nat) (u : Value), vals[j]? = some u → w.cell? ((⟨g, 0, none⟩ : Addr).add j) = some u := fun j u hj => by
      rw [Addr.add_lit, Nat.zero_add]
      exact R'.at hj
    have hr := run_append_grow (P := Tryz.prog) w 82 ty 39 i (.agg #[.slice none 0 0]) ht hi hz0 ⟨g, 0, none⟩ vals.length cap vals (by rw [hz1, Nat.mul_one]) holds ⟨ad, 0, none⟩ 1 c [.slice u1 u2 u3] (by simp [hz1]) hnews (by omega) (by omega) (by rw [hz2]; exact growslice_fits (by omega) (by omega))
    have gc := grownCap_ge w (vals.length + 1) cap 39
    have gm := grownCap_le_maxLen w (vals.length + 1) cap 39 (by unfold maxLen; omega)
    refine ⟨_, _, _, hr, ⟨⟨_, heap_alloc_new _ _, ?_, ?_, ?_⟩, by simp; exact gc⟩, ⟨rfl, rfl, rfl, by simp, fun k hk _ => heap_alloc_old w.drew _ hk⟩, gm, Or.inr (Nat.le_refl _)⟩
    · simp only [Array.size_append, List.size_toArray, List.length_cons, List.length_nil, size_zeroCells, Value.cells]
      simp
      omega
    · rw [Array.toList_append, Array.toList_append]
      exact List.take_left
    · intro u hu
      simp only [Array.toList_append, List.mem_append, List.mem_singleton] at hu
      rcases hu with (hu | rfl) | hu
      · exact h3 u (by rw [← h2] at hu; exact List.mem_of_mem_take hu)
      · exact ⟨_, _, _, rfl⟩
      · simp only [Builtin.zeroCells, Value.cells] at hu
        have : u = .slice none 0 0 := by
          simp at hu
          obtain ⟨j, _, rfl⟩ := hu
          simp [Nat.mod_one]
        exact ⟨_, _, _, this⟩
theorem wpList_rung {w : World} {ops : Array Oper} {rest : List Oper} {o : Oper} {a : Act} {Q : Exit → Act → World → Prop} (hgd : o.guard = none) (s x : Operand)
    (ho : o.op = .call { callee := .builtin .append, args := #[s, x], argTypes := #[82, 82] })
    (g cap n : Nat) (vals : List Value) (en : n = vals.length) (hs : a.eval s = .slice (some ⟨g, 0, none⟩) n cap) (R : Rg w g cap vals) (ad c : Nat) (u1 : Option Addr) (u2 u3 : Nat) (hx : a.eval x = .slice (some ⟨ad, 0, none⟩) 1 c) (hc : w.cell? ⟨ad, 0, none⟩ = some (.slice u1 u2 u3)) (hn : vals.length ≤ 1000) (hcm : cap ≤ maxLen)
    (h : ∀ g' cap' w', Rg w' g' cap' (vals ++ [.slice u1 u2 u3]) → w.grownBy w' (some g) → cap' ≤ maxLen → (g' = g ∨ w.heap.size ≤ g') → wpList Tryz.prog ops Q rest (a.put o.dst (.slice (some ⟨g', 0, none⟩) (n + 1) cap')) w') : wpList Tryz.prog ops Q (o :: rest) a w := by
  subst en
  obtain ⟨g', cap', w', hr, h1, h2, h3, h4⟩ := run_rung (w := w) o.type g cap vals R ad c u1 u2 u3 hc hn hcm
  refine wpList_plain hgd fun K hK => ?_
  unfold Oper.wp execOp
  simp only [ho, resolve, invoke, builtin, Sem.run_bind, Sem.run_pure, Result.andThen_ok, List.map_toArray, List.map_cons, List.map_nil, hs, hx, hr]
  exact hK _ _ (h g' cap' w' h1 h2 h3 h4)
end Go.Proofs.YtpmgbmafibkgnaaGreatDoor.Wt

namespace Go.Proofs.YtpmgbmafibkgnaaGreatDoor.Wt
open Go.RowKit Tn Mo

/-- The i-th rung. -/
def rung (i : Nat) : Nat := (10 ^ 19) ^ (2 ^ i)
theorem rung_pos (i : Nat) : 0 < rung i := Nat.pow_pos (Nat.pow_pos (by decide))
theorem rung_next (i : Nat) : rung (i + 1) = rung i * rung i := by
  unfold rung
  have e : 2 ^ (i + 1) = 2 ^ i + 2 ^ i := by rw [Nat.pow_succ]; omega
  rw [e, Nat.pow_add]
theorem rung_mono {i j : Nat} (h : i ≤ j) : rung i ≤ rung j := Nat.pow_le_pow_right (by decide) (Nat.pow_le_pow_right (by decide) h)
theorem rung_7 : 2 ^ 8078 ≤ rung 7 := by unfold rung; decide +kernel
theorem rung_6 : rung 6 < 2 ^ (64 * 64) := by unfold rung; decide +kernel
theorem rung_8 : rung 7 < 2 ^ (64 * 128) := by unfold rung; decide +kernel
theorem nb_spec (V : Nat) : V < 2 ^ nb V ∧ (nb V = 0 ∨ 2 ^ (nb V - 1) ≤ V) := by
  by_cases h : V = 0
  · subst h
    have : nb 0 = 0 := by
      have := nb_le (V := 0) (k := 0) (by decide)
      omega
    rw [this]
    exact ⟨by decide, Or.inl rfl⟩
  · obtain ⟨L, h1, h2⟩ : ∃ L, V < 2 ^ L ∧ 2 ^ (L - 1) ≤ V := by
      refine ⟨V.log2 + 1, Nat.lt_log2_self, ?_⟩
      rw [Nat.add_sub_cancel]
      exact Nat.log2_self_le h
    have e := nb_eq h1 (Or.inr h2)
    rw [← e]
    exact ⟨h1, Or.inr h2⟩
/-- If the square of the topmost rung is longer than A, A is below it. -/
theorem below_square {A k : Nat} (h : nb A < 2 * nb (rung k) - 1) : A < rung (k + 1) := by
  obtain ⟨h1, _⟩ := nb_spec A
  obtain ⟨_, h2⟩ := nb_spec (rung k)
  rcases h2 with h2 | h2
  · rw [h2] at h; omega
  · have e : nb A ≤ (nb (rung k) - 1) + (nb (rung k) - 1) := by omega
    have p : (2 : Nat) ^ nb A ≤ 2 ^ (nb (rung k) - 1) * 2 ^ (nb (rung k) - 1) := by rw [← Nat.pow_add]; exact Nat.pow_le_pow_right (by decide) e
    have q : 2 ^ (nb (rung k) - 1) * 2 ^ (nb (rung k) - 1) ≤ rung k * rung k := Nat.mul_le_mul h2 h2
    rw [rung_next]
    omega
/-- While it is not, few rungs stand. -/
theorem few_rungs {A k : Nat} (hA : nb A ≤ 16000) (h : ¬ nb A < 2 * nb (rung k) - 1) : k ≤ 6 := by
  by_cases c : k ≤ 6
  · exact c
  · exfalso
    have m := rung_mono (show 7 ≤ k by omega)
    have := rung_7
    obtain ⟨h1, _⟩ := nb_spec (rung k)
    have : (2 : Nat) ^ 8078 < 2 ^ nb (rung k) := by omega
    have := (Nat.pow_lt_pow_iff_right (show 1 < 2 by decide)).1 this
    omega
theorem nb_rung {k : Nat} (h : k ≤ 7) : nb (rung k) ≤ 8192 := by
  have := nb_le (k := 64 * 128) (Nat.lt_of_le_of_lt (rung_mono h) rung_8)
  omega
theorem pw_two (n : Nat) : pw n = (2 : Int) ^ (64 * n) := by
  induction n with
  | zero => rfl
  | succ n ih =>
    show 18446744073709551616 * pw n = _
    rw [ih, show 64 * (n + 1) = 64 * n + 64 by omega, Int.pow_add, Int.mul_comm]
    rfl
theorem lt_cast {a n : Nat} (h : a < 2 ^ n) : (a : Int) < (2 : Int) ^ n := by
  have := Int.ofNat_lt.2 h
  rw [Int.natCast_pow] at this
  exact this
theorem rung_pw {k : Nat} (h : k ≤ 7) : ((rung k : Nat) : Int) < pw 128 := by
  have := rung_mono h
  rw [pw_two]
  exact lt_cast (Nat.lt_of_le_of_lt this rung_8)
theorem rung_pw6 {k : Nat} (h : k ≤ 6) : ((rung k : Nat) : Int) < pw 64 := by
  have := rung_mono h
  rw [pw_two]
  exact lt_cast (Nat.lt_of_le_of_lt this rung_6)
/-- The rungs as they stand. -/
structure Lr (w wr : World) (g cap k : Nat) (vals : List Value) : Prop where
  R : Rg wr g cap vals
  cm : cap ≤ maxLen
  len : vals.length = k
  v : ∀ i, i < k → ∃ a l c, vals[i]? = some (.slice a l c) ∧ Nn wr a l c ((rung i : Nat) : Int)
  bel : Below w.heap.size w wr
  ge : w.heap.size < g
end Go.Proofs.YtpmgbmafibkgnaaGreatDoor.Wt

namespace Go.Proofs.YtpmgbmafibkgnaaGreatDoor.Wt
open Go.RowKit Tn Mo

theorem Lr.next {w wr x x2 : World} {g cap k g' cap' : Nat} {vals : List Value} (h : Lr w wr g cap k vals) (b : Below wr.heap.size wr x) (gr : x.grownBy x2 (some g)) {a : Option Addr} {l c : Nat} (hn : Nn x a l c ((rung k : Nat) : Int)) (R : Rg x2 g' cap' (vals ++ [.slice a l c])) (hc : cap' ≤ maxLen) (hg : g' = g ∨ x.heap.size ≤ g') : Lr w x2 g' cap' (k + 1) (vals ++ [.slice a l c]) := by
  have R1 := h.R.grow b
  refine ⟨R, hc, by rw [List.length_append, h.len]; rfl, fun i hi => ?_, ?_, ?_⟩
  · by_cases e : i = k
    · subst e
      exact ⟨a, l, c, by rw [List.getElem?_append_right (by rw [h.len]; exact Nat.le_refl _), h.len]; simp, Nn.row hn R1 gr⟩
    · obtain ⟨a1, l1, c1, e1, n1⟩ := h.v i (by omega)
      exact ⟨a1, l1, c1, by rw [List.getElem?_append_left (by rw [h.len]; omega)]; exact e1, Nn.row (n1.grow b) R1 gr⟩
  · have s1 := h.bel.size
    have s2 := b.size
    have ge := h.ge
    refine (h.bel.trans (b.mono s1)).trans ⟨gr.os, gr.tape, gr.output, gr.size, fun j hj => gr.block j (by omega) (fun e => ?_)⟩
    simp only [Option.some.injEq] at e
    omega
  · have s1 := h.bel.size
    have s2 := b.size
    have ge := h.ge
    rcases hg with rfl | hg
    · exact ge
    · have := h.R.lt
      omega
theorem Lr.grow {w wr x : World} {g cap k : Nat} {vals : List Value} (h : Lr w wr g cap k vals) (b : Below wr.heap.size wr x) : Lr w x g cap k vals :=
  ⟨h.R.grow b, h.cm, h.len, fun i hi => by obtain ⟨a, l, c, e, n⟩ := h.v i hi; exact ⟨a, l, c, e, n.grow b⟩, bel' h.bel b, h.ge⟩
def slenV : Value → Nat | .slice _ n _ => n | _ => 0
set_option maxRecDepth 100000 in
set_option maxHeartbeats 3200000 in
theorem ladder_any (p : Option Addr) (l c A : Nat) (w : World) (hA : Nn w p l c (A : Int)) (hb : nb A ≤ 16000) (hAp : (A : Int) < pw 1000000) :
    Calls Tryz.prog 58 #[.agg #[.slice p l c]] w fun e w' => ∃ g cap k vals, e = .returned (.slice (some ⟨g, 0, none⟩) k cap) ∧ 1 ≤ k ∧ k ≤ 8 ∧ k ≤ cap ∧ A < rung k ∧ Lr w w' g cap k vals := by
  have B0 := Bx.new w (.slice p l c) 39
  have al := (Below.refl w.heap.size w).alloc (Nat.le_refl _) (.cells #[.slice p l c] 39)
  have OF := Of_any 10000000000000000000
  go_enter Tryz.func58, Tryz.ntmps58
  go_wp2_with (first
    | (go_at_call 24; go_must (refine (OF _ (by decide) (by decide)).mono ?_; rintro e w1 ⟨r, zs, rfl, q1, n1, v1, b1⟩; obtain ⟨a1, l1, c1, rfl⟩ := q1.shape))
    | fail)
  have b2 := bel' al b1
  have K1 := Blk.new w1 #[.slice a1 l1 c1] 39
  have al1 := (Below.refl w1.heap.size w1).alloc (Nat.le_refl _) (.cells #[.slice a1 l1 c1] 39)
  have L0 : Lr w (w1.alloc (.cells #[.slice a1 l1 c1] 39)) w1.heap.size 1 1 [.slice a1 l1 c1] := by
    refine ⟨⟨⟨_, K1, rfl, rfl, fun u hu => ⟨a1, l1, c1, by simpa using hu⟩⟩, Nat.le_refl _⟩, by decide, rfl, fun i hi => ?_, bel' b2 al1, (by have := b1.size; simp at this; omega)⟩
    obtain rfl : i = 0 := by omega
    refine ⟨a1, l1, c1, rfl, Nn.grow ⟨zs, q1, n1, ?_⟩ al1⟩
    rw [v1]; decide
  have BA := (B0.below b1).below al1
  generalize w1.alloc (.cells #[.slice a1 l1 c1] 39) = W at *
  clear OF q1 n1 v1 b1 b2 K1 al1
  go_loopw [3] (fun v wr => ∃ (g cap k : Nat) (vals : List Value), v = .slice (some ⟨g, 0, none⟩) k cap ∧ 1 ≤ k ∧ k ≤ 8 ∧ Lr w wr g cap k vals ∧ Bx wr w.heap.size (.slice p l c)) (fun v _ => 9 - slenV v)
  case atStart => exact ⟨_, _, 1, _, rfl, by decide, by decide, L0, BA⟩
  case round =>
    clear L0 BA B0
    obtain ⟨g, cap, k, vals, rfl, hk1, hk8, LR, BA⟩ := hrel
    obtain ⟨j, hj⟩ : ∃ j, k = j + 1 := ⟨k - 1, by omega⟩
    obtain ⟨ta, tl, tc, ev, nT⟩ := LR.v j (by omega)
    have ct := LR.R.at ev
    have lg := LR.R.lt
    have x1 : IntKind.i64.wrap ((k : Int) - 1) = (j : Int) := by rw [show (k : Int) - 1 = (j : Int) by omega]; exact wrapI _ (by omega) (by omega)
    have y0 : (0 : Int) ≤ (j : Int) := by omega
    have y1 : ((j : Int)).toNat = j := by omega
    have y2 : (j : Int) < (k : Int) := by omega
    have bT := (Below.refl wr.heap.size wr).alloc (Nat.le_refl _) (.cells #[.slice ta tl tc] 39)
    have KT := Bx.new wr (.slice ta tl tc) 39
    have KA := BA.below bT
    have nT1 := nT.grow bT
    have nA1 := (hA.grow LR.bel).grow bT
    have hj7 : j ≤ 7 := by omega
    obtain ⟨tb, htb⟩ : ∃ t, nb (rung j) = t := ⟨_, rfl⟩
    obtain ⟨ab, hab⟩ : ∃ t, nb A = t := ⟨_, rfl⟩
    have tb8 : tb ≤ 8192 := by rw [← htb]; exact nb_rung hj7
    have CT := fun (x : World) (b : Below (wr.alloc (.cells #[.slice ta tl tc] 39)).heap.size (wr.alloc (.cells #[.slice ta tl tc] 39)) x) => BitLen_n (nT1.grow b) (rung_pw hj7) (by decide)
    have CA := fun (x : World) (b : Below (wr.alloc (.cells #[.slice ta tl tc] 39)).heap.size (wr.alloc (.cells #[.slice ta tl tc] 39)) x) => BitLen_n (nA1.grow b) hAp (by decide)
    rw [htb] at CT
    rw [hab] at CA hb
    have x2 : IntKind.i64.wrap (2 * (tb : Int)) = 2 * (tb : Int) := wrapI _ (by omega) (by omega)
    obtain ⟨Z, hZ⟩ : ∃ Z : Int, 2 * (tb : Int) - 1 = Z := ⟨_, rfl⟩
    have x3 : IntKind.i64.wrap (2 * (tb : Int) - 1) = Z := by rw [hZ]; exact wrapI _ (by omega) (by omega)
    have HS : Hid (Lr w wr g cap k vals) := LR
    have HJ : Hid (k = j + 1) := hj
    clear LR nT hj
    go_wp2_with fail
    generalize wr.alloc (.cells #[.slice ta tl tc] 39) = W1 at *
    have t0 := KT.1
    have t1 := KA.1
    have lT := KT.lt
    have lA := KA.lt
    have CT0 := CT W1.drew ((Below.refl _ _).drew)
    by_cases hgt : ab < 2 * tb - 1
    · have hgt' : (ab : Int) < Z := by omega
      have hlt := below_square (A := A) (k := j) (by rw [hab, htb]; exact hgt)
      clear hgt hZ
      go_region_held3 (fun x => x.cell? ⟨wr.heap.size, 0, none⟩ = some (.slice ta tl tc) ∧ x.cell? ⟨w.heap.size, 0, none⟩ = some (.slice p l c)) (go_keep) (first
        | (go_at_call 71; refine (CA w5 (bel' (Below.refl _ _).drew b5)).mono ?_; rintro e w6 ⟨rfl, b6⟩; have s2 := (b6.cell (p := ⟨wr.heap.size, 0, none⟩) (lt_of_cell s0)).trans s0; have s3 := (b6.cell (p := ⟨w.heap.size, 0, none⟩) (lt_of_cell s1)).trans s1)
        | (go_at_call 71; refine CT0.mono ?_; rintro e w5 ⟨rfl, b5⟩; have s0 := (b5.cell (p := ⟨wr.heap.size, 0, none⟩) lT).trans t0; have s1 := (b5.cell (p := ⟨w.heap.size, 0, none⟩) lA).trans t1)
        | fail)
      all_goals
        have b7 := bel' (bel' bT (bel' (Below.refl _ _).drew b5)) b6
        have LE := HS.out.grow b7
        have hkc : k ≤ cap := by have := HS.out.R.le; rw [HS.out.len] at this; exact this
        clear HS CT CA CT0
        go_wp2
        go_ret
        exact ⟨g, cap, k, vals, rfl, hk1, hk8, hkc, by rw [HJ.out]; exact hlt, LE⟩
    · have hgt' : ¬ (ab : Int) < Z := by omega
      have hj6 := few_rungs (A := A) (k := j) (by rw [hab]; exact hb) (by rw [hab, htb]; exact hgt)
      clear hgt hZ
      go_region_held3 (fun x => x.cell? ⟨wr.heap.size, 0, none⟩ = some (.slice ta tl tc) ∧ x.cell? ⟨w.heap.size, 0, none⟩ = some (.slice p l c)) (go_keep) (first
        | (go_at_call 71; refine (CA w5 (bel' (Below.refl _ _).drew b5)).mono ?_; rintro e w6 ⟨rfl, b6⟩; have s2 := (b6.cell (p := ⟨wr.heap.size, 0, none⟩) (lt_of_cell s0)).trans s0; have s3 := (b6.cell (p := ⟨w.heap.size, 0, none⟩) (lt_of_cell s1)).trans s1)
        | (go_at_call 71; refine CT0.mono ?_; rintro e w5 ⟨rfl, b5⟩; have s0 := (b5.cell (p := ⟨wr.heap.size, 0, none⟩) lT).trans t0; have s1 := (b5.cell (p := ⟨w.heap.size, 0, none⟩) lA).trans t1)
        | fail)
      all_goals
        have b7 := bel' (bel' bT (bel' (Below.refl _ _).drew b5)) b6
        have nT2 := (nT1.grow (bel' (Below.refl _ _).drew b5)).grow b6
        have MU := Mul_n nT2 nT2 (rung_pw6 hj6) (rung_pw6 hj6) (by unfold MulOK; omega)
        rw [show ((rung j : Nat) : Int) * ((rung j : Nat) : Int) = ((rung k : Nat) : Int) by rw [HJ.out, rung_next]; simp] at MU
        have LE := HS.out.grow b7
        clear HS CT CA CT0 hAp hb nT2 nT1 nA1 x2 x3 tb8
        go_wp2_with (first
          | (go_at_call 23; go_must (refine MU.mono ?_; rintro e w7 ⟨ma, ml, mc, rfl, nM, b8⟩; (have b9 := (bel' b8 ((Below.refl w7.heap.size w7).alloc (Nat.le_refl _) (.cells #[.slice ma ml mc] 39)))); (have LF := LE.grow b9); (have c9 : (w7.alloc (.cells #[.slice ma ml mc] 39)).cell? ⟨w7.heap.size, 0, none⟩ = some (.slice ma ml mc) := by simp)))
          | (at_builtin; go_must (refine wpList_rung rfl _ _ rfl g cap k vals LF.len.symm rfl LF.R w7.heap.size 1 ma ml mc rfl c9 (by rw [LF.len]; exact Nat.le_trans hk8 (by decide)) LF.cm ?_; intro g2 cap2 w8 R8 gr8 cm8 gg8))
          | fail)
        have NX := LE.next b9 gr8 (nM.grow ((Below.refl _ _).alloc (Nat.le_refl _) _)) R8 cm8 gg8
        have BA8 : Bx w8 w.heap.size (.slice p l c) := (BA.below (bel' b7 b9)).blocks (gr8.block _ (Nat.lt_of_lt_of_le BA.lt (bel' b7 b9).size) (fun e => by
          simp only [Option.some.injEq] at e
          have := LF.ge
          omega))
        go_roundw
        case rel => exact ⟨g2, cap2, k + 1, _, by go_num, by omega, (by have := HJ.out; omega), NX, BA8⟩
        case measure => simp [slenV]; omega
end Go.Proofs.YtpmgbmafibkgnaaGreatDoor.Wt

namespace Go.Proofs.YtpmgbmafibkgnaaGreatDoor.Wt
open Go.RowKit Tn Mo Go.Lib

theorem drop_lead {a b : List UInt8} {c : UInt8} {t : List UInt8} (h1 : ∀ x ∈ a, x = 48) (h2 : b = c :: t) (h3 : c.toNat ≠ 48) : (a ++ b).dropWhile (· == 48) = b := by
  induction a with
  | nil =>
    subst h2
    have : (c == 48) = false := by
      rw [beq_eq_false_iff_ne]
      rintro rfl
      exact h3 rfl
    simp [this]
  | cons x a ih =>
    obtain rfl := h1 x (by simp)
    rw [List.cons_append, List.dropWhile_cons]
    simp only [beq_self_eq_true, if_true]
    exact ih (fun x hx => h1 x (by simp [hx]))
theorem str_list (xs : List Int) : (strOfNums xs).data.toList = xs.map fun n => UInt8.ofNat n.toNat := by simp [strOfNums]
theorem trim_pd (V N : Nat) (h : nDigits V ≤ N) (h0 : 0 < V) : trimLeftB (strOfNums (pd V N)).data.toList 48 = decDigits V := by
  have e : pd V N = Dc.dgs V N N := rfl
  have hs := congrArg (fun s : ByteArray => s.data.toList) (Dc.dgs_str V N h)
  simp only [str_list] at hs
  rw [e, str_list]
  unfold trimLeftB
  rw [← List.take_append_drop (N - nDigits V) (Dc.dgs V N N), List.map_append, hs]
  obtain ⟨c, t, ec, _, hc⟩ := dec_cons V
  refine drop_lead (fun x hx => ?_) ec (hc h0)
  obtain ⟨n, hn, rfl⟩ := List.mem_map.1 hx
  obtain ⟨i, hi⟩ := List.getElem?_of_mem hn
  have hl : i < N - nDigits V := by
    by_cases q : i < N - nDigits V
    · exact q
    · rw [List.getElem?_eq_none (by rw [List.length_take]; omega)] at hi; cases hi
  rw [List.getElem?_take, if_pos hl] at hi
  have g := Dc.dgs_at V N N i (by omega)
  rw [List.getD_eq_getElem?_getD, hi] at g
  simp only [Option.getD_some] at g
  rw [g, Dc.high_digit V (N - 1 - i) (by omega)]
  rfl
theorem Lr.ru {w wr : World} {g cap k : Nat} {vals : List Value} (h : Lr w wr g cap k vals) : Ru wr wr.heap.size g 0 k := by
  refine ⟨h.R.lt, fun i hi => ?_⟩
  obtain ⟨a, l, c, e, n⟩ := h.v i hi
  refine ⟨a, l, c, by rw [Nat.zero_add]; exact h.R.at e, n, fun ad ea => ?_⟩
  obtain ⟨xs, ⟨hW, a1, c1, e1, _, _, h3⟩, _, hv⟩ := n
  have pos : 0 < xs.length := by
    by_cases q : 0 < xs.length
    · exact q
    · have : xs = [] := List.eq_nil_of_length_eq_zero (by omega)
      subst this
      have := rung_pos i
      have z : val [] = 0 := rfl
      rw [z] at hv
      omega
  obtain ⟨b, o, e2, q⟩ := h3 pos
  simp only [Value.slice.injEq] at e1
  rw [e1.1, e2] at ea
  cases ea
  exact lt_of_cell (q 0 pos)
end Go.Proofs.YtpmgbmafibkgnaaGreatDoor.Wt

namespace Go.Proofs.YtpmgbmafibkgnaaGreatDoor.Wt
open Go.RowKit Tn Mo Go.Lib

theorem nDig_of {V k : Nat} (h : V < rung k) : nDigits V ≤ 19 * 2 ^ k := by
  refine Dc.nDigits_le (Nat.mul_pos (by decide) (Nat.pow_pos (by decide))) ?_
  rw [ten_pow]
  exact h
theorem nb_pw {A n : Nat} (h : nb A ≤ 64 * n) : (A : Int) < pw n := by
  rw [pw_two]
  exact lt_cast (Nat.lt_of_lt_of_le (nb_spec A).1 (Nat.pow_le_pow_right (by decide) h))
set_option maxRecDepth 100000 in
set_option maxHeartbeats 3200000 in
/-- Text of a number of two words and more, of at most sixteen thousand bits. -/
theorem Text_many (p : Option Addr) (l c A : Nat) (w : World) (hA : Nn w p l c (A : Int)) (hb : nb A ≤ 16000) (h2 : 18446744073709551616 ≤ A) :
    Calls Tryz.prog 27 #[.agg #[.slice p l c]] w fun e w' => e = .returned (.string ⟨(decDigits A).toArray⟩) ∧ Below w.heap.size w w' := by
  have hAp : (A : Int) < pw 1000000 := nb_pw (by omega)
  have hl : 2 ≤ l := by
    obtain ⟨xs, ⟨hW, a1, c1, e, _⟩, n, hv⟩ := hA
    simp only [Value.slice.injEq] at e
    rw [e.2.1]
    by_cases q : 2 ≤ xs.length
    · exact q
    · exfalso
      have v1 := val_lt hW
      have := pw_mono (show xs.length ≤ 1 by omega)
      have p1 : pw 1 = 18446744073709551616 := by decide
      omega
  have hlm : (l : Int) ≤ 9223372036854775807 := by
    obtain ⟨xs, ⟨hW, a1, c1, e, h3, h4, _⟩, n, hv⟩ := hA
    simp only [Value.slice.injEq] at e
    unfold maxLen at h4
    omega
  have hl' : ¬ (l : Int) ≤ 1 := by omega
  have B0 := Bx.new w (.slice p l c) 39
  have al := (Below.refl w.heap.size w).alloc (Nat.le_refl _) (.cells #[.slice p l c] 39)
  have nA := hA.grow al
  have q0 := B0.1
  have lB := B0.lt
  have LA := fun (x : World) (h : Nn x p l c (A : Int)) => ladder_any p l c A x h hb hAp
  have HP : Hid ((A : Int) < pw 1000000) := hAp
  clear hAp hA
  go_enter Tryz.func27, Tryz.ntmps27
  go_wp2_with fail
  generalize w.alloc (.cells #[.slice p l c] 39) = W at *
  have LAD := LA W.drew nA
  clear LA
  go_region_held3 (fun x => x.cell? ⟨w.heap.size, 0, none⟩ = some (.slice p l c)) (go_keep) (first
    | (go_at_call 57; refine (DG.mono ?_); rintro e w3 ⟨gt, cap2, rfl, o3, gr3, nb3, u3⟩; have s3 := gr3.cell s2 (fun e => by cases e))
    | (go_at_call 58; refine LAD.mono ?_; rintro e w2 ⟨g, cap, k, vals, rfl, k1, k8, kc, hlt, LR⟩; have b2 : Below W.drew.heap.size W.drew w2 := LR.bel; have s2 := (b2.cell (p := ⟨w.heap.size, 0, none⟩) lB).trans q0; have nA2 := nA.grow (bel' (Below.refl _ _).drew b2); have DG := digits_any k k1 (by omega) p l c A none 0 0 [] w2.heap.size g 0 cap w2 nA2 HP.out rfl (by have : 2 ^ k ≤ 2 ^ 8 := Nat.pow_le_pow_right (by decide) k8; simp; omega) (World.ownsRow_nil _ _ _ _) (Nat.le_refl _) (fun k e => by cases e) LR.ru kc; obtain ⟨K, hK⟩ : ∃ K, 19 * 2 ^ k = K := ⟨_, rfl⟩; rw [hK] at DG; simp only [List.length_nil, Nat.zero_add, List.nil_append] at DG)
    | fail)
  all_goals
    obtain ⟨T, _, _⟩ := Tr.of (l := pd A K) o3 u3
    have cv := run_convert_bytes_arg (P := Tryz.prog) w3 80 5 Tryz.underlying80 Tryz.underlying5 gt 0 K cap2 (pd A K) (pd_len A K) (fun i hi => by rw [Nat.zero_add]; exact T.cel i hi) 9 Tryz.underlying9
    have TL := Tryz.strings_TrimLeft_one (strOfNums (pd A K)) 48 (by decide)
    rw [trim_pd A K (by rw [← hK]; exact nDig_of hlt) (by omega)] at TL
    have bE : Below w.heap.size w w3 := bel' (bel' al (bel' (Below.refl _ _).drew b2)) ⟨gr3.os, gr3.tape, gr3.output, gr3.size, fun j hj => gr3.block j hj (by simp [Value.ownBlock])⟩
    clear T o3 u3 LR DG LAD nA nA2 gr3
    go_wp2_with (first | (go_at_call 59; go_must (refine (TL _).mono ?_; rintro e w4 ⟨rfl, hw⟩; subst w4)) | fail)
    go_ret
    exact ⟨rfl, bE⟩
end Go.Proofs.YtpmgbmafibkgnaaGreatDoor.Wt

namespace Go.Proofs.YtpmgbmafibkgnaaGreatDoor.Mo
open Go.RowKit Fu Tn Go.Lib Wt

theorem two_le {N n : Nat} (h : n < nb N) : 2 ^ n ≤ N := by
  rcases (nb_spec N).2 with s | s
  · omega
  · exact Nat.le_trans (Nat.pow_le_pow_right (by decide) (by omega)) s
theorem no_less {N k m n : Nat} (h1 : 2 ^ n ≤ N) (h3 : 10 ^ m ≤ 2 ^ n) (h2 : N < 10 ^ k) : m < k := by
  by_cases c : m < k
  · exact c
  · exact absurd (Nat.lt_of_lt_of_le h2 (Nat.le_trans (Nat.pow_le_pow_right (by decide) (by omega)) (Nat.le_trans h3 h1))) (Nat.lt_irrefl _)
theorem ten_two : (10 : Nat) ^ 4096 ≤ 2 ^ 13654 := by decide +kernel
/-- A number that has so many bits has too many digits. -/
theorem long_bits {N : Nat} (h : 13654 < nb N) : 4096 < (decDigits N).length := by
  have h1 := two_le h
  have h2 : N < 10 ^ (decDigits N).length := by
    have := Dc.num_lt (decDigits N) (dec_dg N)
    rwa [dec_num] at this
  exact no_less h1 ten_two h2
theorem Text_any (a : Option Addr) (l c V : Nat) (w : World) (h : Nn w a l c (V : Int)) (hb : nb V ≤ 16000) (G : Gw w) :
    Calls Tryz.prog 27 #[.agg #[.slice a l c]] w fun e w' => e = .returned (.string ⟨(decDigits V).toArray⟩) ∧ Below w.heap.size w w' := by
  by_cases q : V < 18446744073709551616
  · exact Text_one a l c V w h q G
  · exact Text_many a l c V w h hb (by omega)
/-- What is written of a fraction, and its error. -/
def wA (g : Bool) (N D : Nat) : (ByteArray × ByteArray) × Int := if (decDigits N).length ≤ 4096 ∧ (decDigits D).length ≤ 4096 then ((sB (sg g (decDigits N)), sB (decDigits D)), 0) else ((⟨#[]⟩, ⟨#[]⟩), 3)
theorem Write_any (g : Bool) (a a' : Option Addr) (l c l' c' N D : Nat) (w : World) (h1 : Nn w a l c (N : Int)) (h2 : Nn w a' l' c' (D : Int)) (b1 : (N : Int) < pw 1000000) (b2 : (D : Int) < pw 1000000) (G : Gw w) :
    Calls Tryz.prog 34 #[.bool g, .agg #[.slice a l c], .agg #[.slice a' l' c']] w fun e w' => e = .returned (.tuple #[.agg #[.string (wA g N D).1.1, .string (wA g N D).1.2], .int .i64 (wA g N D).2]) ∧ Below w.heap.size w w' := by
  have B1 : ∀ x, Below w.heap.size w x → Calls Tryz.prog 71 #[.agg #[.slice a l c]] x fun e w' => e = .returned (.int .i64 (nb N)) ∧ Below x.heap.size x w' := fun x b => BitLen_n (h1.grow b) b1 (Nat.le_refl _)
  have B2 : ∀ x, Below w.heap.size w x → Calls Tryz.prog 71 #[.agg #[.slice a' l' c']] x fun e w' => e = .returned (.int .i64 (nb D)) ∧ Below x.heap.size x w' := fun x b => BitLen_n (h2.grow b) b2 (Nat.le_refl _)
  have LO : ∀ (P : Prop), ¬ ((decDigits N).length ≤ 4096 ∧ (decDigits D).length ≤ 4096) → (wA g N D = ((⟨#[]⟩, ⟨#[]⟩), 3) → P) → P := fun P h q => q (by unfold wA; rw [if_neg h])
  by_cases q1 : 13654 < nb N
  · refine LO _ (fun h => by have := long_bits q1; omega) (fun e => ?_)
    rw [e]
    exact Write_big1 g a a' l c l' c' _ w (by omega) B1
  · by_cases q2 : 13654 < nb D
    · refine LO _ (fun h => by have := long_bits q2; omega) (fun e => ?_)
      rw [e]
      exact Write_big2 g a a' l c l' c' _ _ w (by omega) (by omega) B1 B2
    · have T1 := fun x (b : Below w.heap.size w x) => Text_any a l c N x (h1.grow b) (by omega) (G.grow b)
      have T2 := fun x (b : Below w.heap.size w x) => Text_any a' l' c' D x (h2.grow b) (by omega) (G.grow b)
      have z1 : ByteArray.size ⟨(decDigits N).toArray⟩ = (decDigits N).length := sB_size _
      have z2 : ByteArray.size ⟨(decDigits D).toArray⟩ = (decDigits D).length := sB_size _
      by_cases q3 : 4096 < (decDigits N).length
      · refine LO _ (fun h => by omega) (fun e => ?_)
        rw [e]
        exact Write_many1 g a a' l c l' c' _ _ _ _ w (by omega) (by omega) (by rw [z1]; exact q3) T1 T2 B1 B2
      · by_cases q4 : 4096 < (decDigits D).length
        · refine LO _ (fun h => by omega) (fun e => ?_)
          rw [e]
          exact Write_many2 g a a' l c l' c' _ _ _ _ w (by omega) (by omega) (by rw [z1]; omega) (by rw [z2]; exact q4) T1 T2 B1 B2
        · have e : wA g N D = ((sB (sg g (decDigits N)), sB (decDigits D)), 0) := by unfold wA; rw [if_pos ⟨by omega, by omega⟩]
          rw [e]
          exact Write_walk g a a' l c l' c' _ _ _ _ _ w (by omega) (by omega) (by show ByteArray.size ⟨(decDigits N).toArray⟩ ≤ 4096; rw [z1]; omega) (by show ByteArray.size ⟨(decDigits D).toArray⟩ ≤ 4096; rw [z2]; omega) T1 T2 B1 B2 (fun y => WSign_any _ _ y (by omega))
set_option maxRecDepth 100000 in
set_option maxHeartbeats 800000 in
theorem Ratio_walk (g : Bool) (a a' : Option Addr) (l c l' c' : Nat) (s t : ByteArray) (er : Int) (w : World)
    (WR : ∀ x, Below w.heap.size w x → Calls Tryz.prog 34 #[.bool g, .agg #[.slice a l c], .agg #[.slice a' l' c']] x fun e w' => e = .returned (.tuple #[.agg #[.string s, .string t], .int .i64 er]) ∧ Below x.heap.size x w') :
    Calls Tryz.prog 16 #[.agg #[.bool g, .slice a l c, .slice a' l' c']] w fun e w' => e = .returned (.tuple #[.agg #[.string s, .string t], .int .i64 er]) ∧ Below w.heap.size w w' := by
  have K0 := (Rb.new w (.bool g) (.slice a l c) (.slice a' l' c') 41).alloc (.cells #[.string ⟨#[]⟩, .string ⟨#[]⟩] 23)
  have KR := Blk.new (w.alloc (.cells #[.bool g, .slice a l c, .slice a' l' c'] 41)) #[.string ⟨#[]⟩, .string ⟨#[]⟩] 23
  simp only [World.size_alloc] at KR
  have pr : Below w.heap.size w ((w.alloc (.cells #[.bool g, .slice a l c, .slice a' l' c'] 41)).alloc (.cells #[.string ⟨#[]⟩, .string ⟨#[]⟩] 23)) := ((Below.refl _ _).alloc (Nat.le_refl _) _).alloc (by simp) _
  have c0 := K0.c0
  have c1 := K0.c1
  have c2 := K0.c2
  go_enter Tryz.func16, Tryz.ntmps16
  go_wp2_with (first
    | (go_at_call 34; refine (WR _ pr).mono ?_; rintro e w1 ⟨rfl, b1⟩; have p1 := bel' pr b1; have KR1 := KR.below b1 KR.lt; have kr0 := KR1.at 0; have kr1 := KR1.at 1; have kf0 := KR1.free 0; have kf1 := KR1.free 1; simp at kr0 kr1)
    | fail)
  have KE := bput (bput KR1 0 (.string s)) 1 (.string t)
  have bE := (p1.setCell (p := ⟨w.heap.size + 1, 0, none⟩) (show w.heap.size ≤ w.heap.size + 1 by omega) (.string s)).setCell (p := ⟨w.heap.size + 1, 1, none⟩) (show w.heap.size ≤ w.heap.size + 1 by omega) (.string t)
  generalize (w1.setCell ⟨w.heap.size + 1, 0, none⟩ (.string s)).setCell ⟨w.heap.size + 1, 1, none⟩ (.string t) = WE at *
  have z0 := KE.at 0
  have z1 := KE.at 1
  simp at z0 z1
  exact bodyPost_ret (v := .tuple #[.agg #[.string s, .string t], .int .i64 er]) (by simp [results, Tryz.results16, go_sem, z0, z1]) rfl ⟨rfl, bE⟩
/-- What is told of an exact number: as it is written, or that it is too long. -/
def wrA (r : Rat) : Value × Int := (.agg #[.string (wA (decide (r.num < 0)) r.num.natAbs r.den).1.1, .string (wA (decide (r.num < 0)) r.num.natAbs r.den).1.2], (wA (decide (r.num < 0)) r.num.natAbs r.den).2)
theorem wrA_short {r : Rat} (h1 : (decDigits r.num.natAbs).length ≤ 4096) (h2 : (decDigits r.den).length ≤ 4096) : wrA r = (wrt r, 0) := by
  unfold wrA wA wrt
  rw [if_pos ⟨h1, h2⟩]
theorem wrA_long {r : Rat} (h : ¬ ((decDigits r.num.natAbs).length ≤ 4096 ∧ (decDigits r.den).length ≤ 4096)) : wrA r = (.agg #[.string ⟨#[]⟩, .string ⟨#[]⟩], 3) := by
  unfold wrA wA
  rw [if_neg h]
/-- Ratio of any fraction of at most a million words. -/
theorem Ratio_any (v : Value) (r : Rat) (w : World) (h : PF w v r) (hs : PS r 1000000) (G : Gw w) :
    Calls Tryz.prog 16 #[v] w fun e w' => e = .returned (.tuple #[(wrA r).1, .int .i64 (wrA r).2]) ∧ Below w.heap.size w w' := by
  obtain ⟨a, l, c, a', l', c', rfl, k1, k2⟩ := h
  exact Ratio_walk _ a a' l c l' c' _ _ _ w (fun x b => Write_any _ a a' l c l' c' _ _ x (k1.grow b) (k2.grow b) hs.1 hs.2 (G.grow b))
end Go.Proofs.YtpmgbmafibkgnaaGreatDoor.Mo
