import Derived.Test.YtohdbpnkenoclabDoorDd2
namespace Go.Proofs.YtohdbpnkenoclabDoor.Dy
open Go.RowKit Tn
/-- The cells of a row of dates. -/
def dl (f : Nat → Int × Int × Int) : Nat → List Value
  | 0 => []
  | n + 1 => dl f n ++ [.int .i64 (f n).1, .int .i64 (f n).2.1, .int .i64 (f n).2.2]
theorem dl_len (f : Nat → Int × Int × Int) (n : Nat) : (dl f n).length = n * 3 := by
  induction n with
  | zero => rfl
  | succ n ih => simp [dl, ih]; omega
theorem dl_get (f : Nat → Int × Int × Int) (n i : Nat) (h : i < n) : (dl f n)[i * 3]? = some (.int .i64 (f i).1) ∧ (dl f n)[i * 3 + 1]? = some (.int .i64 (f i).2.1) ∧ (dl f n)[i * 3 + 2]? = some (.int .i64 (f i).2.2) := by
  induction n with
  | zero => omega
  | succ n ih =>
    by_cases c : i = n
    · subst c
      have l := dl_len f i
      refine ⟨?_, ?_, ?_⟩
      · rw [show dl f (i + 1) = dl f i ++ [.int .i64 (f i).1, .int .i64 (f i).2.1, .int .i64 (f i).2.2] from rfl, List.getElem?_append_right (by omega), l]; simp
      · rw [show dl f (i + 1) = dl f i ++ [.int .i64 (f i).1, .int .i64 (f i).2.1, .int .i64 (f i).2.2] from rfl, List.getElem?_append_right (by omega), l]; simp
      · rw [show dl f (i + 1) = dl f i ++ [.int .i64 (f i).1, .int .i64 (f i).2.1, .int .i64 (f i).2.2] from rfl, List.getElem?_append_right (by omega), l]; simp
    · have l := dl_len f n
      have := ih (by omega)
      rw [show dl f (n + 1) = dl f n ++ [.int .i64 (f n).1, .int .i64 (f n).2.1, .int .i64 (f n).2.2] from rfl, List.getElem?_append_left (by omega), List.getElem?_append_left (by omega), List.getElem?_append_left (by omega)]
      exact this
/-- A list of dates, of a call's own. -/
def Ds (W : World) (base : Nat) (v : Value) (n : Nat) (f : Nat → Int × Int × Int) : Prop :=
  (v = .slice none 0 0 ∧ n = 0) ∨ ∃ g cap, v = .slice (some ⟨g, 0, none⟩) n cap ∧ base ≤ g ∧ n ≤ cap ∧ cap ≤ maxLen ∧ Rw W g cap 0 n f
theorem ds_of {W : World} {base : Nat} {v : Value} {n : Nat} {f : Nat → Int × Int × Int} (h : W.ownsRow base 23 3 v n (dl f n)) : Ds W base v n f := by
  obtain ⟨_, h⟩ := h
  rcases h with h | ⟨g, cap, cur, h1, h2, h3, h4, h5, h6, h7⟩
  · exact Or.inl h
  · refine Or.inr ⟨g, cap, h1, h2, h4, h5, cur, h3, h6, h4, fun i _ hi => ?_⟩
    have d := dl_get f n i hi
    have e : ∀ j, j < n * 3 → cur[j]? = (dl f n)[j]? := fun j hj => by
      rw [← h7, List.getElem?_take_of_lt hj, Array.getElem?_toList]
    rw [e _ (by omega), e _ (by omega), e _ (by omega)]
    exact d
/-- append(l, d). -/
theorem wpList_push_date {w : World} {ops : Array Oper} {rest : List Oper} {o : Oper} {a : Act} {Q : Exit → Act → World → Prop} (hgd : o.guard = none) (s x : Operand)
    (ho : o.op = .call { callee := .builtin .append, args := #[s, x], argTypes := #[33, 33] })
    (v : Value) (n : Nat) (f : Nat → Int × Int × Int) (hs : a.eval s = v) (base : Nat) (hown : w.ownsRow base 23 3 v n (dl f n)) (hL : n ≤ 4096)
    (ad c : Nat) (Y M D : Int) (hf : f n = (Y, M, D)) (hx : a.eval x = .slice (some ⟨ad, 0, none⟩) 1 c) (c0 : w.cell? ⟨ad, 0, none⟩ = some (.int .i64 Y)) (c1 : w.cell? ⟨ad, 1, none⟩ = some (.int .i64 M)) (c2 : w.cell? ⟨ad, 2, none⟩ = some (.int .i64 D)) (hbase : base ≤ w.heap.size)
    (h : ∀ v' w', w'.ownsRow base 23 3 v' (n + 1) (dl f (n + 1)) → Below base w w' → wpList Tryd.prog ops Q rest (a.put o.dst v') w') : wpList Tryd.prog ops Q (o :: rest) a w := by
  obtain ⟨i, hi, hz0, hz1, hz2⟩ := info_parts (show (Tryd.prog.info? 23).map (fun i => (i.zero, i.size, i.bytes)) = some (some (.agg #[.int .i64 0, .int .i64 0, .int .i64 0]), 3, 24) by kernel_rfl)
  refine wpList_append_own w hgd s x 33 ho base 23 i _ 3 24 (by kernel_rfl) hi hz0 hz1 hz2 rfl (by decide) v n _ hs hown ⟨ad, 0, none⟩ 1 c [.int .i64 Y, .int .i64 M, .int .i64 D] hx rfl ?_ (by intro u hu; simp at hu; rcases hu with rfl | rfl | rfl <;> rfl) (by unfold maxLen; omega) (by omega) hbase ?_
  · intro j u hj
    match j, hj with
    | 0, hj => simp at hj; subst hj; simpa [Addr.add] using c0
    | 1, hj => simp at hj; subst hj; simpa [Addr.add] using c1
    | 2, hj => simp at hj; subst hj; simpa [Addr.add] using c2
    | j + 3, hj => simp at hj
  · intro v' w' hown' hgr _
    refine h v' w' (by rw [show dl f (n + 1) = dl f n ++ [.int .i64 (f n).1, .int .i64 (f n).2.1, .int .i64 (f n).2.2] from rfl, hf]; exact hown') ⟨hgr.os, hgr.tape, hgr.output, hgr.size, fun k hk => hgr.block k (by omega) ?_⟩
    obtain ⟨_, hr⟩ := hown
    rcases hr with ⟨rfl, _⟩ | ⟨g, cap, cur, rfl, hb, _⟩
    · simp [Value.ownBlock]
    · simp [Value.ownBlock]; omega
theorem own_bel {W W' : World} {base n : Nat} {v : Value} {xs : List Value} (h : W.ownsRow base 23 3 v n xs) (k : Below W.heap.size W W') : W'.ownsRow base 23 3 v n xs := by
  obtain ⟨h0, h⟩ := h
  refine ⟨h0, ?_⟩
  rcases h with h | ⟨g, cap, cur, h1, h2, h3, h4⟩
  · exact Or.inl h
  · exact Or.inr ⟨g, cap, cur, h1, h2, (k.block g (Own.lt ⟨cur, _, h3⟩)).trans h3, h4⟩
set_option maxHeartbeats 800000 in
theorem RDues_w0 (y m d E c : Int) (w : World) (G : Gl w) (g : good y m d = false) : Calls Tryd.prog 12 #[dt y m d, .int .i64 E, .int .i64 c] w fun x w' => x = .returned (.tuple #[.slice none 0 0, .int .i64 70]) ∧ Below w.heap.size w w' := by
  have Ka0 := Blk.new w #[.int .i64 y, .int .i64 m, .int .i64 d] 23
  have pr := bl (w := w) #[.int .i64 y, .int .i64 m, .int .i64 d] 23
  have G0 := (G).alloc (.cells #[.int .i64 y, .int .i64 m, .int .i64 d] 23)
  have C := Good_any y m d
  rw [g] at C
  clear G g
  unfold dt at *
  go_enter Tryd.func12, Tryd.ntmps12
  go_wp2_with (first
    | (go_at_call 24; refine (C _).mono ?_; rintro x w1 ⟨rfl, b1⟩; have Ka1 := Ka0.below b1 Ka0.lt; have ka10 := Ka1.c0; have ka11 := Ka1.c1; have ka12 := Ka1.c2; have ka1l := Ka1.lt; have G1 := G0.grow b1; have p1 := belT pr b1)
    | fail)
  go_ret2
  exact ⟨rfl, p1⟩
set_option maxHeartbeats 800000 in
theorem RDues_w1 (y m d E c : Int) (w : World) (G : Gl w) (g : good y m d = true) (h : E < 1 ∨ 1200 < E ∨ c < 0 ∨ 4096 < c) : Calls Tryd.prog 12 #[dt y m d, .int .i64 E, .int .i64 c] w fun x w' => x = .returned (.tuple #[.slice none 0 0, .int .i64 1]) ∧ Below w.heap.size w w' := by
  have Ka0 := Blk.new w #[.int .i64 y, .int .i64 m, .int .i64 d] 23
  have pr := bl (w := w) #[.int .i64 y, .int .i64 m, .int .i64 d] 23
  have G0 := (G).alloc (.cells #[.int .i64 y, .int .i64 m, .int .i64 d] 23)
  have C := Good_any y m d
  rw [g] at C
  clear G g
  unfold dt at *
  by_cases h1 : E < 1
  · clear h
    go_enter Tryd.func12, Tryd.ntmps12
    go_wp2_with (first
      | (go_at_call 24; refine (C _).mono ?_; rintro x w1 ⟨rfl, b1⟩; have Ka1 := Ka0.below b1 Ka0.lt; have ka10 := Ka1.c0; have ka11 := Ka1.c1; have ka12 := Ka1.c2; have ka1l := Ka1.lt; have G1 := G0.grow b1; have p1 := belT pr b1)
      | fail)
    go_ret2
    exact ⟨rfl, p1⟩
  by_cases h2 : 1200 < E
  · clear h
    go_enter Tryd.func12, Tryd.ntmps12
    go_wp2_with (first
      | (go_at_call 24; refine (C _).mono ?_; rintro x w1 ⟨rfl, b1⟩; have Ka1 := Ka0.below b1 Ka0.lt; have ka10 := Ka1.c0; have ka11 := Ka1.c1; have ka12 := Ka1.c2; have ka1l := Ka1.lt; have G1 := G0.grow b1; have p1 := belT pr b1)
      | fail)
    go_ret2
    exact ⟨rfl, p1⟩
  by_cases h3 : c < 0
  · clear h
    go_enter Tryd.func12, Tryd.ntmps12
    go_wp2_with (first
      | (go_at_call 24; refine (C _).mono ?_; rintro x w1 ⟨rfl, b1⟩; have Ka1 := Ka0.below b1 Ka0.lt; have ka10 := Ka1.c0; have ka11 := Ka1.c1; have ka12 := Ka1.c2; have ka1l := Ka1.lt; have G1 := G0.grow b1; have p1 := belT pr b1)
      | fail)
    go_ret2
    exact ⟨rfl, p1⟩
  have h4 : 4096 < c := by omega
  clear h
  go_enter Tryd.func12, Tryd.ntmps12
  go_wp2_with (first
    | (go_at_call 24; refine (C _).mono ?_; rintro x w1 ⟨rfl, b1⟩; have Ka1 := Ka0.below b1 Ka0.lt; have ka10 := Ka1.c0; have ka11 := Ka1.c1; have ka12 := Ka1.c2; have ka1l := Ka1.lt; have G1 := G0.grow b1; have p1 := belT pr b1)
    | fail)
  go_ret2
  exact ⟨rfl, p1⟩
set_option maxHeartbeats 1600000 in
theorem RDues_w2 (y m d E : Int) (c : Nat) (w : World) (G : Gl w) (g : good y m d = true) (h1 : 1 ≤ E) (h2 : E ≤ 1200) (h3 : c ≤ 4096) : Calls Tryd.prog 12 #[dt y m d, .int .i64 E, .int .i64 (c : Int)] w fun x w' =>
    ((∀ k : Nat, k < c → mo y m + E * k ≤ 119987) ∧ ∃ v, x = .returned (.tuple #[v, .int .i64 0]) ∧ Ds w' w.heap.size v c (du y m d E) ∧ Below w.heap.size w w') ∨
    ((∃ k : Nat, k < c ∧ 119987 < mo y m + E * k) ∧ x = .returned (.tuple #[.slice none 0 0, .int .i64 1]) ∧ Below w.heap.size w w') := by
  have Ka0 := Blk.new w #[.int .i64 y, .int .i64 m, .int .i64 d] 23
  have pr := bl (w := w) #[.int .i64 y, .int .i64 m, .int .i64 d] 23
  have G0 := (G).alloc (.cells #[.int .i64 y, .int .i64 m, .int .i64 d] 23)
  have C := Good_any y m d
  have MO : Hid (∀ k : Int, 0 ≤ mo y m + E * k → mo y m + E * k ≤ 119987 → ∀ W, Calls Tryd.prog 25 #[.agg #[.int .i64 y, .int .i64 m, .int .i64 d], .int .i64 (E * k)] W fun x w' => x = .returned (.tuple #[.agg #[.int .i64 ((mo y m + E * k) / 12 + 1), .int .i64 ((mo y m + E * k) % 12 + 1), .int .i64 (min d (mk (mo y m + E * k)))], .int .i64 0]) ∧ Below W.heap.size W w') := fun k a b => by
    have := ROn_any y m d (E * k)
    unfold mns at this
    rw [g, if_pos rfl, if_pos ⟨a, b⟩] at this
    exact this
  have MF : Hid (∀ k : Int, 119987 < mo y m + E * k → ∀ W, Calls Tryd.prog 25 #[.agg #[.int .i64 y, .int .i64 m, .int .i64 d], .int .i64 (E * k)] W fun x w' => x = .returned (.tuple #[.agg #[.int .i64 0, .int .i64 0, .int .i64 0], .int .i64 1]) ∧ Below W.heap.size W w') := fun k b => by
    have := ROn_any y m d (E * k)
    unfold mns at this
    rw [g, if_pos rfl, if_neg (fun h => absurd h.2 (by omega))] at this
    exact this
  rw [g] at C
  have m0 : 0 ≤ mo y m := by have := good_iff.1 g; unfold mo; omega
  clear G g
  unfold dt at *
  go_enter Tryd.func12, Tryd.ntmps12
  go_wp2_with (first
    | (go_at_call 24; refine (C _).mono ?_; rintro x w1 ⟨rfl, b1⟩; have Ka1 := Ka0.below b1 Ka0.lt; have ka10 := Ka1.c0; have ka11 := Ka1.c1; have ka12 := Ka1.c2; have ka1l := Ka1.lt; have G1 := G0.grow b1; have p1 := belT pr b1)
    | fail)
  have lo : w.heap.size < w1.heap.size := Ka1.lt
  go_loopw [8, 9] (fun l t wr => ∃ k : Nat, k ≤ c ∧ t = .int .i64 (k : Int) ∧ (∀ j : Nat, j < k → mo y m + E * j ≤ 119987) ∧ Blk wr w.heap.size #[.int .i64 y, .int .i64 m, .int .i64 d] 23 ∧ wr.ownsRow w1.heap.size 23 3 l k (dl (du y m d E) k) ∧ w1.heap.size ≤ wr.heap.size ∧ Below w.heap.size w wr) (fun _ t _ => ((c : Int) - RowKit.intOf t).toNat)
  case atStart => exact ⟨0, by omega, rfl, fun j hj => absurd hj (by omega), Ka1, ⟨rfl, Or.inl ⟨rfl, rfl⟩⟩, Nat.le_refl _, p1⟩
  case round =>
    obtain ⟨k, k1, rfl, ok, Ka3, R3, s3, p3⟩ := hrel
    have OK : Hid _ := ok
    clear ok
    have q0 := Ka3.c0
    have q1 := Ka3.c1
    have q2 := Ka3.c2
    by_cases kc : k < c
    · have kc' : (k : Int) < (c : Int) := by omega
      have kn : (0 : Int) ≤ (k : Int) := by omega
      have e1 : IntKind.i64.wrap (E * (k : Int)) = E * (k : Int) := by
        have := Int.mul_le_mul h2 (show (k : Int) ≤ 4096 by omega) kn (by omega)
        have := Int.mul_nonneg (show 0 ≤ E by omega) kn
        exact wrapI _ (by omega) (by omega)
      by_cases o : mo y m + E * k ≤ 119987
      · have M := MO.out k (by have := Int.mul_nonneg (show 0 ≤ E by omega) kn; omega) o
        have D : Hid (du y m d E k = ((mo y m + E * k) / 12 + 1, (mo y m + E * k) % 12 + 1, min d (mk (mo y m + E * k)))) := rfl
        generalize (mo y m + E * (k : Int)) / 12 + 1 = Y at *
        generalize (mo y m + E * (k : Int)) % 12 + 1 = M0 at *
        generalize min d (mk (mo y m + E * (k : Int))) = D0 at *
        have o' : Hid _ := o
        clear o
        go_wp2_with (first
          | (go_at_call 25; refine (M _).mono ?_; rintro x w4 ⟨rfl, b4⟩; have R4 := own_bel R3 b4; have Ka4 := Ka3.below b4 Ka3.lt; have p4 := belT p3 b4; have s4 := Nat.le_trans s3 b4.size)
          | (at_builtin; (refine wpList_push_date rfl _ _ rfl _ k (du y m d E) rfl w1.heap.size (own_bel (own_bel R4 (bl _ _)) (bl _ _)) (by omega) _ _ Y M0 D0 D.out rfl (by simp) (by simp) (by simp) (by simp; omega) ?_; intro l' w5 R5 b5; have p5 := (belT (belT p4 (bl _ _)) (bl _ _)).trans (Below.mono b5 (by omega)); have Ka5 := ((Ka4.alloc _).alloc _).below b5 lo; have s5 := Nat.le_trans (Nat.le_trans s4 (Nat.le_trans (bl #[.int .i64 Y, .int .i64 M0, .int .i64 D0] 23).size (bl #[.int .i64 Y, .int .i64 M0, .int .i64 D0] 23).size)) b5.size))
          | fail)
        go_roundw
        case rel =>
          refine ⟨k + 1, by omega, by go_num, fun j hj => ?_, Ka5, R5, s5, p5⟩
          by_cases jk : j = k
          · subst jk; exact o'.out
          · exact OK.out j (by omega)
        case measure => simp [RowKit.intOf]; omega
      · replace o : 119987 < mo y m + E * k := by omega
        have M := MF.out k o
        have o' : Hid _ := o
        clear o
        go_wp2_with (first
          | (go_at_call 25; refine (M _).mono ?_; rintro x w4 ⟨rfl, b4⟩; have p4 := belT p3 b4)
          | fail)
        go_ret2
        exact Or.inr ⟨⟨k, kc, o'.out⟩, rfl, belT p4 (bl _ _)⟩
    · go_wp2_with fail
      go_ret2
      obtain rfl : k = c := by omega
      refine Or.inl ⟨fun j hj => OK.out j hj, _, rfl, ?_, p3⟩
      rcases ds_of R3 with h | ⟨g, cap, h1, h2, h3⟩
      · exact Or.inl h
      · exact Or.inr ⟨g, cap, h1, by omega, h3⟩
end Go.Proofs.YtohdbpnkenoclabDoor.Dy
