import Derived.Test.YteepjipecfdkoaaDoorWe2
namespace Go.Proofs.YteepjipecfdkoaaDoor.Dy
open Go.RowKit Tn
/-- A row of numbers, of which the first k are told. -/
def Rn (W : World) (g n k : Nat) (h : Nat → Int) : Prop := ∃ cur : Array Value, Blk W g cur 3 ∧ cur.size = n ∧ ∀ i, i < k → cur[i]? = some (.int .i64 (h i))
theorem Rn.lt {W : World} {g n k : Nat} {h : Nat → Int} (r : Rn W g n k h) : g < W.heap.size := by
  obtain ⟨cur, b, _⟩ := r
  exact b.lt
theorem Rn.grow {W W' : World} {g n k : Nat} {h : Nat → Int} (r : Rn W g n k h) (b : Below W.heap.size W W') : Rn W' g n k h := by
  obtain ⟨cur, c, d⟩ := r
  exact ⟨cur, c.below b c.lt, d⟩
theorem Rn.alloc {W : World} {g n k : Nat} {h : Nat → Int} (r : Rn W g n k h) (o : Obj) : Rn (W.alloc o) g n k h := r.grow ((Below.refl _ _).alloc (Nat.le_refl _) o)
theorem Rn.free {W : World} {g n k : Nat} {h : Nat → Int} (r : Rn W g n k h) (i : Nat) : W.frozen? ⟨g, i, none⟩ = false := by
  obtain ⟨cur, b, _⟩ := r
  exact b.free i
theorem Rn.some {W : World} {g n k : Nat} {h : Nat → Int} (r : Rn W g n k h) {i : Nat} (hi : i < n) : ∃ a, W.cell? ⟨g, i, none⟩ = some a := by
  obtain ⟨cur, b, s, _⟩ := r
  exact ⟨cur[i]'(by omega), by rw [b.at]; exact Array.getElem?_eq_getElem _⟩
theorem Rn.put {W : World} {g n k : Nat} {h : Nat → Int} (r : Rn W g n k h) (hk : k < n) {x : Int} (e : h k = x) : Rn (W.setCell ⟨g, k, none⟩ (.int .i64 x)) g n (k + 1) h := by
  obtain ⟨cur, b, s, t⟩ := r
  refine ⟨_, dput b _ _, by simp [s], fun i hi => ?_⟩
  by_cases c : i = k
  · subst c
    rw [e]
    simp [s, hk]
  · rw [Array.getElem?_setIfInBounds_ne (by omega)]
    exact t i (by omega)
theorem Rn.skip {W : World} {g n k b i : Nat} {h : Nat → Int} (r : Rn W g n k h) (hb : b ≠ g) (v : Value) : Rn (W.setCell ⟨b, i, none⟩ v) g n k h := by
  obtain ⟨cur, c, d⟩ := r
  exact ⟨cur, dskip c hb i v, d⟩
theorem Rn.skip3 {W : World} {g n k b i j l : Nat} {h : Nat → Int} {x y z : Value} (r : Rn W g n k h) (hb : b ≠ g) : Rn (((W.setCell ⟨b, i, none⟩ x).setCell ⟨b, j, none⟩ y).setCell ⟨b, l, none⟩ z) g n k h := ((r.skip hb _).skip hb _).skip hb _
/-- make([]int, n). -/
theorem wpList_make_nums {w : World} {ops : Array Oper} {rest : List Oper} {o : Oper} {a : Act} {Q : Exit → Act → World → Prop} (hg : o.guard = none) (l c : Operand) (hop : o.op = Op.makeSlice 33 l c)
    (n : Nat) (hl : a.eval l = .int .i64 (n : Int)) (hc : a.eval c = .int .i64 (n : Int)) (hn : n ≤ 4096)
    (hK : ∀ w', (∀ f, Rn w' w.heap.size n 0 f) → Below w.heap.size w w' → wpList Tryd.prog ops Q rest (a.put o.dst (.slice (some ⟨w.heap.size, 0, none⟩) n n)) w') : wpList Tryd.prog ops Q (o :: rest) a w := by
  obtain ⟨i, hi, hz0, hz1, hz2⟩ := info_parts (show (Tryd.prog.info? 3).map (fun i => (i.zero, i.size, i.bytes)) = some (some (.int .i64 0), 1, 8) by kernel_rfl)
  refine wpList_make_full w hg l c 33 hop w.heap.size 3 i _ 1 (by kernel_rfl) hi hz0 hz1 .i64 .i64 _ _ n hl hc rfl rfl (by rw [hz2]; omega) (by unfold maxLen; omega) (Nat.le_refl _) ?_
  intro w' own gr
  refine hK w' (fun f => ?_) ⟨gr.os, gr.tape, gr.output, gr.size, fun k hk => gr.block k hk (by simp)⟩
  obtain ⟨_, hr⟩ := own
  rcases hr with ⟨h1, _⟩ | ⟨g, cap, cur, h1, _, h2, h3, _, h4, _⟩
  · cases h1
  · simp only [Value.slice.injEq, Option.some.injEq, Addr.mk.injEq] at h1
    obtain ⟨⟨rfl, _⟩, _, rfl⟩ := h1
    exact ⟨cur, h2, by omega, fun i hi => absurd hi (by omega)⟩
theorem nl_map (f : Nat → Int × Int × Int) (n : Nat) : (nl f n).map (Value.int .i64) = (List.range n).map (fun i => Value.int .i64 (nf f i)) := by simp [nl]
/-- slices.Sort of such a row. -/
theorem sort_nums (f : Nat → Int × Int × Int) (n base g : Nat) (W : World) (R : Rn W g n n (nf f)) (hb : base ≤ g) (hn : n ≤ 4096) :
    Calls Tryd.prog 16 #[.slice (some ⟨g, 0, none⟩) n n] W fun e w' => e = .returned (.tuple #[]) ∧ So w' (.slice (some ⟨g, 0, none⟩) n n) (sl f n) ∧ Below base W w' := by
  have hl := R.lt
  obtain ⟨cur, b, s, t⟩ := R
  have H : Sort.Holds (Value.int .i64) W g 0 (nl f n).toArray := by
    refine holds_of_blockI b ?_
    rw [nl_len]
    apply List.ext_getElem?
    intro j
    by_cases hj : j < n
    · rw [List.getElem?_take_of_lt hj, Array.getElem?_toList, t j hj, nl_map, List.getElem?_map, List.getElem?_range hj]; rfl
    · rw [List.getElem?_take_eq_none (by omega), List.getElem?_eq_none (by simp [nl_len]; omega)]
  have C := Tryd.slices_Sort_int g 0 n (nl f n) W H hl (by rw [nl_len]; omega)
  rw [nl_len] at C
  refine C.mono ?_
  rintro e w' ⟨rfl, q, os, rfl⟩
  have gb := grownBy_sortedI (w := W) (g := g) (n := q) (os := os) (sl f n).toArray
  have hh := heap_sortedI (w := W) (g := g) (n := q) (os := os) (sl f n).toArray b
  refine ⟨rfl, ⟨_, n, by rw [sl_len], fun _ => ⟨g, rfl, fun i hi => ?_⟩⟩, ⟨gb.os, gb.tape, gb.output, gb.size, fun k hk => ?_⟩⟩
  · rw [sl_len] at hi
    refine (Blk.at (t := 3) hh i).trans ?_
    simp [Sort.putCells, sl_len, hi, show i < cur.size by omega, List.getD_eq_getElem?_getD]
  · by_cases c : k < W.heap.size
    · exact gb.block k c (by simp; omega)
    · omega
set_option maxHeartbeats 800000 in
theorem freeNumbers_long (f : Nat → Int × Int × Int) (n : Nat) (hn : 4096 < n) (hn' : n ≤ 9223372036854775807) (v : Value) (w : World) (S : Rs w v n f) :
    Calls Tryd.prog 7 #[v] w fun e w' => e = .returned (.tuple #[.slice none 0 0, .int .i64 3]) ∧ w' = w := by
  obtain ⟨ao, c, rfl, _⟩ := S
  have h : (4096 : Int) < (n : Int) := by omega
  go_enter Tryd.func7, Tryd.ntmps7
  go_wp2_with fail
  go_ret2
  exact ⟨rfl, rfl⟩
set_option maxHeartbeats 1600000 in
theorem freeNumbers_short (f : Nat → Int × Int × Int) (n : Nat) (hn : n ≤ 4096) (v : Value) (w : World) (S : Rs w v n f) (G : Gl w) :
    Calls Tryd.prog 7 #[v] w fun e w' =>
      (ag f n = true ∧ ∃ v', e = .returned (.tuple #[v', .int .i64 0]) ∧ So w' v' (sl f n) ∧ Below w.heap.size w w') ∨
      (ag f n = false ∧ e = .returned (.tuple #[.slice none 0 0, .int .i64 70]) ∧ Below w.heap.size w w') := by
  have N : Hid (∀ i, ∀ W, Gl W → Calls Tryd.prog 6 #[.agg #[.int .i64 (f i).1, .int .i64 (f i).2.1, .int .i64 (f i).2.2]] W fun e w' => e = .returned (.tuple #[.int .i64 (if gf f i then nf f i else 0), .int .i64 (er (gf f i))]) ∧ Below W.heap.size W w') := fun i W G => Number_any _ _ _ W G
  obtain ⟨ao, c, rfl, S⟩ := S
  have SH : Hid _ := S
  clear S
  have h : (n : Int) ≤ 4096 := by omega
  go_enter Tryd.func7, Tryd.ntmps7
  go_wp2_with (first
    | (at_make; refine wpList_make_nums rfl _ _ rfl n rfl rfl hn ?_; intro w2 R2 b2; have G2 := G.grow b2)
    | fail)
  have R2' := R2 (nf f)
  clear R2
  go_loopw [17] (fun t wr => ∃ k : Nat, k ≤ n ∧ t = .int .i64 (k : Int) ∧ (∀ j : Nat, j < k → gf f j = true) ∧ Rn wr w.heap.size n k (nf f) ∧ Gl wr ∧ Below w.heap.size w wr) (fun t _ => ((n : Int) - RowKit.intOf t).toNat)
  case atStart => exact ⟨0, by omega, rfl, fun j hj => absurd hj (by omega), R2', G2, b2⟩
  case round =>
    clear R2' G2
    obtain ⟨k, k1, rfl, ok, R3, G3, p3⟩ := hrel
    have OK : Hid _ := ok
    clear ok
    by_cases kn : k < n
    · obtain ⟨b, o, rfl, S⟩ := SH.out (by omega)
      obtain ⟨c0', c1', c2'⟩ := S k kn
      clear S
      have cc0 := (p3.cell (lt_of_cell c0')).trans c0'
      have cc1 := (p3.cell (lt_of_cell c1')).trans c1'
      have cc2 := (p3.cell (lt_of_cell c2')).trans c2'
      clear c0' c1' c2'
      have NN := N.out k
      have kn' : (k : Int) < (n : Int) := by omega
      have k0 : (0 : Int) ≤ (k : Int) := by omega
      have gk : Hid (gf f k = gf f k) := rfl
      have nk : Hid (nf f k = nf f k) := rfl
      revert gk nk NN
      generalize hg : gf f k = gg
      generalize hx : nf f k = xx
      intro NN _ _
      have hg' : Hid _ := hg
      have hx' : Hid _ := hx
      clear hg hx
      generalize (f k).1 = Y at *
      generalize (f k).2.1 = M at *
      generalize (f k).2.2 = D at *
      cases gg
      · rw [if_neg (by decide), show er false = 70 from rfl] at NN
        go_wp2_with (first
          | (go_at_call 6; refine (NN _ (G3.alloc _)).mono ?_; rintro x w4 ⟨rfl, b4⟩)
          | fail)
        go_ret2
        exact Or.inr ⟨ag_no kn hg'.out, rfl, belT (belT p3 (bl _ _)) b4⟩
      · rw [if_pos rfl, show er true = 0 from rfl] at NN
        go_wp2_with (first
          | (go_at_call 6; refine (NN _ (G3.alloc _)).mono ?_; rintro x w4 ⟨rfl, b4⟩; have R4 := (R3.alloc _).grow b4; have G4 := (G3.alloc _).grow b4; have p4 := belT (belT p3 (bl _ _)) b4; obtain ⟨v0, cv⟩ := R4.some kn; have l4 := R4.lt; have f0 := R4.free k)
          | fail)
        have bq : Below w.heap.size w (w4.setCell ⟨w.heap.size, k, none⟩ (.int .i64 xx)) := p4.setCell (p := ⟨w.heap.size, k, none⟩) (Nat.le_refl _) _
        refine ⟨⟨k + 1, by omega, by go_num, fun j hj => ?_, R4.put kn hx'.out, G4.bel ((Below.refl w.heap.size w4).setCell (p := ⟨w.heap.size, k, none⟩) (Nat.le_refl _) _) G.at, bq⟩, by simp [RowKit.intOf]; omega⟩
        by_cases jk : j = k
        · subst jk; exact hg'.out
        · exact OK.out j (by omega)
    · obtain rfl : k = n := by omega
      go_wp2_with (first
        | (go_at_call 16; refine (sort_nums f k w.heap.size w.heap.size _ R3 (Nat.le_refl _) hn).mono ?_; rintro x w4 ⟨rfl, s4, b4⟩)
        | fail)
      go_ret2
      exact Or.inl ⟨ag_iff.2 OK.out, _, rfl, s4, p3.trans b4⟩
theorem freeNumbers_any (f : Nat → Int × Int × Int) (n : Nat) (hn' : n ≤ 9223372036854775807) (v : Value) (w : World) (S : Rs w v n f) (G : Gl w) :
    Calls Tryd.prog 7 #[v] w fun e w' => ∃ v', e = .returned (.tuple #[v', .int .i64 (fe f n)]) ∧ (fe f n = 0 → So w' v' (sl f n)) ∧ Below w.heap.size w w' := by
  unfold fe
  by_cases hn : n ≤ 4096
  · refine (freeNumbers_short f n hn v w S G).mono ?_
    rintro e w' (⟨a, v', rfl, s, b⟩ | ⟨a, rfl, b⟩)
    · rw [a, if_pos hn]
      exact ⟨v', rfl, fun _ => s, b⟩
    · rw [a, if_pos hn]
      exact ⟨_, rfl, fun h => by simp at h, b⟩
  · refine (freeNumbers_long f n (by omega) hn' v w S).mono ?_
    rintro e w' ⟨rfl, rfl⟩
    rw [if_neg hn]
    exact ⟨_, rfl, fun h => by simp at h, Below.refl _ _⟩
end Go.Proofs.YteepjipecfdkoaaDoor.Dy
