import Derived.Test.YtachlkcoghkjnaaTb7
import Derived.Laws.AppendOwn
import Derived.OwnWalk
namespace Go.Proofs.Ytachlkcoghkjnaa.Ta
open Go.RowKit Go.Proofs.Ytachlkcoghkjnaa.L Dc
open Go.Proofs.Ytachlkcoghkjnaa.Mo (Ri wrapI)

theorem info_parts {P : Program} {t : TypeId} {z : Value} {s b : Nat} (h : (P.info? t).map (fun i => (i.zero, i.size, i.bytes)) = some (some z, s, b)) : ∃ i, P.info? t = some i ∧ i.zero = some z ∧ i.size = s ∧ i.bytes = b := by
  obtain ⟨i, h1, h2⟩ := Option.map_eq_some_iff.1 h
  simp only [Prod.mk.injEq] at h2
  exact ⟨i, h1, h2.1, h2.2.1, h2.2.2⟩
/-- A row of ints that lies in a block of its own. -/
def Oi (w : World) (g cap : Nat) (xs : List Int) : Prop :=
  (∀ i, -9223372036854775808 ≤ L.nth xs i ∧ L.nth xs i ≤ 9223372036854775807) ∧ xs.length * 8 ≤ 140737488351232 ∧ xs.length ≤ cap ∧ cap ≤ maxLen ∧
  ∃ cur : Array Value, w.heap[g]? = some (.cells cur 3 (0, 0)) ∧ cur.size = cap ∧ cur.toList.take xs.length = xs.map (Value.int .i64)
theorem Oi.lt {w : World} {g cap : Nat} {xs : List Int} (h : Oi w g cap xs) : g < w.heap.size := by
  obtain ⟨_, _, _, _, cur, e, _⟩ := h
  exact Own.lt ⟨cur, _, e⟩
theorem Oi.keep {w w' : World} {g cap : Nat} {xs : List Int} (h : Oi w g cap xs) (e : w'.heap[g]? = w.heap[g]?) : Oi w' g cap xs := by
  obtain ⟨h1, h2, h3, h4, cur, h5, h6⟩ := h
  exact ⟨h1, h2, h3, h4, cur, e.trans h5, h6⟩
theorem Oi.grow {w w' : World} {g cap : Nat} {xs : List Int} (h : Oi w g cap xs) (k : Below w.heap.size w w') : Oi w' g cap xs := h.keep (k.block g h.lt)
theorem Oi.ne {w : World} {g cap n : Nat} {xs : List Int} {c : Array Value} {t : TypeId} (h : Oi w g cap xs) (k : Blk w n c t) (ht : t ≠ 3) : g ≠ n := by
  rintro rfl
  obtain ⟨_, _, _, _, cur, e, _⟩ := h
  have k' : w.heap[g]? = some (.cells c t (0, 0)) := k
  rw [e] at k'
  simp at k'
  exact ht k'.2.symm
theorem Oi.skip {w : World} {g cap n : Nat} {xs : List Int} (h : Oi w g cap xs) (ne : g ≠ n) (i : Nat) (v : Value) : Oi (w.setCell ⟨n, i, none⟩ v) g cap xs := h.keep (Below.heap_setCell _ _ _ _ ne)
theorem Oi.rx {w : World} {g cap : Nat} {xs : List Int} (h : Oi w g cap xs) : Rx w (.slice (some ⟨g, 0, none⟩) xs.length cap) xs := by
  obtain ⟨h1, h2, h3, h4, cur, h5, h6, h7⟩ := h
  refine ⟨⟨h1, _, cap, rfl, h3, h4, fun _ => ⟨g, 0, rfl, fun i hi => ?_⟩⟩, ⟨_, cap, rfl, fun e => by cases e⟩, h2⟩
  have e := congrArg (fun l : List Value => l[i]?) h7
  simp only [List.getElem?_take, hi, if_true, List.getElem?_map] at e
  simp only [World.cell?, h5, Nat.zero_add, Option.isSome_none, Bool.false_eq_true, if_false]
  rw [Array.getElem?_toList] at e
  rw [e]
  simp [L.nth, List.getD_eq_getElem?_getD, List.getElem?_eq_getElem hi]

/-- append([]int{}, x...): a row of one's own that reads the same; nothing that lay there has turned. -/
theorem run_copy_new {w : World} (ty g0 : Nat) (hg : Blk w g0 #[] 3) (v : Value) (xs : List Int) (hr : Rx w v xs) :
    ∃ g cap w', (Builtin.append_ #[22, 22] ty #[.slice (some ⟨g0, 0, none⟩) 0 0, v]).run Try.prog w = .ok (.slice (some ⟨g, 0, none⟩) xs.length cap) w' ∧ Oi w' g cap xs ∧ Below w.heap.size w w' := by
  obtain ⟨i, hi, hz0, hz1, hz2⟩ := info_parts (show (Try.prog.info? 3).map (fun i => (i.zero, i.size, i.bytes)) = some (some (.int .i64 0), 1, 8) by kernel_rfl)
  obtain ⟨⟨hb, a', cap', e', hl, hm, hc⟩, ⟨ao, c, e2, hno⟩, hL⟩ := hr
  have ev := e'
  rw [e2] at ev
  obtain ⟨rfl, rfl⟩ : ao = a' ∧ c = cap' := by simpa using ev
  subst e2
  by_cases h0 : xs.length = 0
  · have e0 : xs = [] := List.eq_nil_of_length_eq_zero h0
    subst e0
    have hown : w.ownsRow 0 3 1 (.slice (some ⟨g0, 0, none⟩) 0 0) 0 [] := ⟨rfl, Or.inr ⟨g0, 0, #[], rfl, Nat.zero_le _, hg, Nat.le_refl _, by decide, by simp, by simp⟩⟩
    cases ao with
    | none =>
      obtain rfl := hno rfl
      have hrun := run_append_owned_none (P := Try.prog) w 0 22 ty 3 i 1 (by kernel_rfl) hi _ 0 [] hown
      exact ⟨g0, 0, w, hrun, ⟨hb, by simp, Nat.le_refl _, by decide, #[], hg, rfl, rfl⟩, Below.refl _ _⟩
    | some ad =>
      obtain ⟨w', hrun, h2, h3⟩ := run_append_fits (P := Try.prog) w 0 22 ty 3 i 1 (by kernel_rfl) hi hz1 g0 0 0 [] hown ad 0 c [] rfl (by simp) (by simp) (by simp)
      obtain ⟨_, h5⟩ := h2
      rcases h5 with ⟨e, _⟩ | ⟨g, cap, cur', e1, _, e3, _, _, e6, _⟩
      · simp at e
      · simp at e1
        obtain ⟨rfl, rfl⟩ := e1
        have ec : cur' = #[] := by apply Array.eq_empty_of_size_eq_zero; omega
        subst ec
        refine ⟨g0, 0, w', hrun, ⟨hb, by simp, Nat.le_refl _, by decide, #[], e3, rfl, rfl⟩, ⟨h3.os, h3.tape, h3.output, h3.size, fun k hk => ?_⟩⟩
        by_cases ek : k = g0
        · subst ek; exact e3.trans (Eq.symm hg)
        · exact h3.block k hk (fun e => ek (by simpa using e))
  · obtain ⟨b, o', rfl, hcl⟩ := hc (by omega)
    have hnews : ∀ (j : Nat) (u : Value), (xs.map (Value.int .i64))[j]? = some u → w.cell? ((⟨b, o', none⟩ : Addr).add j) = some u := by
      intro j u hj
      rw [List.getElem?_map] at hj
      obtain ⟨y, hy, rfl⟩ := Option.map_eq_some_iff.1 hj
      have hjl : j < xs.length := by
        by_cases c : j < xs.length
        · exact c
        · rw [List.getElem?_eq_none (by omega)] at hy; cases hy
      have := hcl.at hjl
      rw [Addr.add_lit, this]
      simp [L.nth, List.getD_eq_getElem?_getD, hy]
    have hrun := run_append_grow (P := Try.prog) w 22 ty 3 i (.int .i64 0) (by kernel_rfl) hi hz0 ⟨g0, 0, none⟩ 0 0 [] (by simp) (by simp) ⟨b, o', none⟩ xs.length c (xs.map (Value.int .i64)) (by rw [List.length_map, hz1, Nat.mul_one]) hnews (by omega) (by simp; omega) (by rw [hz2, Nat.zero_add, nextslicecap_zero (by omega)]; omega)
    have gc := grownCap_ge w (0 + xs.length) 0 3
    have gm := grownCap_le_maxLen w (0 + xs.length) 0 3 (by unfold maxLen; omega)
    rw [Nat.zero_add] at gc gm hrun
    refine ⟨_, _, _, hrun, ⟨hb, hL, gc, gm, _, heap_alloc_new _ _, ?_, ?_⟩, (Below.refl _ _).drew.alloc (Nat.le_refl _) _⟩
    · simp [size_zeroCells, Value.cells]; omega
    · simp
theorem wp_copy_new {w : World} {o : Oper} {a : Act} {K : Act → World → Prop} {Q : Exit → Act → World → Prop} (s x : Operand)
    (ho : o.op = .call { callee := .builtin .append, args := #[s, x], argTypes := #[22, 22] })
    (g0 : Nat) (hs : a.eval s = .slice (some ⟨g0, 0, none⟩) 0 0) (hg : Blk w g0 #[] 3)
    (v : Value) (xs : List Int) (hx : a.eval x = v) (hr : Rx w v xs)
    (h : ∀ g cap w', Oi w' g cap xs → Below w.heap.size w w' → K (a.put o.dst (.slice (some ⟨g, 0, none⟩) xs.length cap)) w') : o.wp Try.prog a w K Q := by
  obtain ⟨g, cap, w', hrun, h1, h2⟩ := run_copy_new o.type g0 hg v xs hr
  unfold Oper.wp
  simp only [execOp, ho, resolve, invoke, builtin, Sem.run_bind, Sem.run_pure, Result.andThen_ok, List.map_toArray, List.map_cons, List.map_nil, hs, hx, hrun]
  exact h g cap w' h1 h2

/-- append(l, r) of rows. -/
theorem wp_push_row {w : World} {o : Oper} {a : Act} {K : Act → World → Prop} {Q : Exit → Act → World → Prop} (s x : Operand)
    (ho : o.op = .call { callee := .builtin .append, args := #[s, x], argTypes := #[23, 23] })
    (v : Value) (n : Nat) (vals : List Value) (hs : a.eval s = v) (base : Nat) (hown : w.ownsRow base 22 1 v n vals) (hL : (n + 1) * 24 ≤ 140737488351232)
    (ad c : Nat) (u1 : Option Addr) (u2 u3 : Nat) (hx : a.eval x = .slice (some ⟨ad, 0, none⟩) 1 c) (c0 : w.cell? ⟨ad, 0, none⟩ = some (.slice u1 u2 u3)) (hbase : base ≤ w.heap.size)
    (h : ∀ v' w', w'.ownsRow base 22 1 v' (n + 1) (vals ++ [.slice u1 u2 u3]) → w.grownBy w' v.ownBlock → K (a.put o.dst v') w') : o.wp Try.prog a w K Q := by
  obtain ⟨i, hi, hz0, hz1, hz2⟩ := info_parts (show (Try.prog.info? 22).map (fun i => (i.zero, i.size, i.bytes)) = some (some (.slice none 0 0), 1, 24) by kernel_rfl)
  refine wp_append_own w s x 23 ho base 22 i _ 1 24 (by kernel_rfl) hi hz0 hz1 hz2 rfl (by decide) v n vals hs hown ⟨ad, 0, none⟩ 1 c [.slice u1 u2 u3] hx rfl ?_ (by intro u hu; simp at hu; subst hu; rfl) (by unfold maxLen; omega) (by omega) hbase fun v' w' h1 h2 _ => h v' w' h1 h2
  intro j u hj
  match j, hj with
  | 0, hj => simp at hj; subst hj; simpa [Addr.add] using c0
  | j + 1, hj => simp at hj

theorem bput {w : World} {n : Nat} {c : Array Value} {t : TypeId} (h : Blk w n c t) (i : Nat) (v : Value) : Blk (w.setCell ⟨n, i, none⟩ v) n (c.setIfInBounds i v) t := by
  have h' : w.heap[n]? = some (.cells c t (0, 0)) := h
  show (w.setCell ⟨n, i, none⟩ v).heap[n]? = _
  simp [World.setCell, Array.getElem?_modify, h']
theorem bskip {w : World} {n b : Nat} {c : Array Value} {t : TypeId} (h : Blk w n c t) (hb : b ≠ n) (i : Nat) (v : Value) : Blk (w.setCell ⟨b, i, none⟩ v) n c t := by
  have h' : w.heap[n]? = some (.cells c t (0, 0)) := h
  show (w.setCell ⟨b, i, none⟩ v).heap[n]? = _
  simp [World.setCell, Array.getElem?_modify, h', hb]
theorem put4 {w : World} {n : Nat} {a b c d : Value} {t : TypeId} (h : Blk w n #[a, b, c, d] t) (p q r s : Value) :
    Blk ((((w.setCell ⟨n, 0, none⟩ p).setCell ⟨n, 1, none⟩ q).setCell ⟨n, 2, none⟩ r).setCell ⟨n, 3, none⟩ s) n #[p, q, r, s] t := bput (bput (bput (bput h 0 p) 1 q) 2 r) 3 s
theorem set4 {B n : Nat} {w W : World} {p q r s : Value} (h : Below B w W) (hn : B ≤ n) :
    Below B w ((((W.setCell ⟨n, 0, none⟩ p).setCell ⟨n, 1, none⟩ q).setCell ⟨n, 2, none⟩ r).setCell ⟨n, 3, none⟩ s) :=
  (((h.setCell (p := ⟨n, 0, none⟩) hn p).setCell (p := ⟨n, 1, none⟩) hn q).setCell (p := ⟨n, 2, none⟩) hn r).setCell (p := ⟨n, 3, none⟩) hn s
theorem Oi.skip4 {w : World} {g cap n : Nat} {xs : List Int} (h : Oi w g cap xs) (ne : g ≠ n) (p q r s : Value) :
    Oi ((((w.setCell ⟨n, 0, none⟩ p).setCell ⟨n, 1, none⟩ q).setCell ⟨n, 2, none⟩ r).setCell ⟨n, 3, none⟩ s) g cap xs := (((h.skip ne 0 p).skip ne 1 q).skip ne 2 r).skip ne 3 s
end Go.Proofs.Ytachlkcoghkjnaa.Ta
