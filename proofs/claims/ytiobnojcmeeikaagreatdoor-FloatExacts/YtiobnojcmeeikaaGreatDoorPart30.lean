import Derived.Test.YtiobnojcmeeikaaGreatDoorPart29
import Derived.Test.YtiobnojcmeeikaaGreatDoorPart06
import Derived.Deep.RegionHeld3
import Derived.Laws.Strings
import Derived.Test.YtiobnojcmeeikaaGreatDoorPart01

namespace Go.Proofs.YtiobnojcmeeikaaGreatDoor
open Go.RowKit Tn

theorem gcd_rec (a b : Int) : Int.gcd b (a % b) = Int.gcd a b := by
  have := divmod_eq a b
  have e : a % b = a - a / b * b := by omega
  rw [e, Int.mul_comm, Int.gcd_sub_mul_left_right, Int.gcd_comm]

/-- Nothing that lay in w has turned, but blocks a and b, which stay rows of their sizes. -/
structure Wr2 (a b : Nat) (w w' : World) : Prop where
  os : w'.os = w.os
  tape : w'.tape = w.tape
  output : w'.output = w.output
  size : w.heap.size ≤ w'.heap.size
  block : ∀ k, k < w.heap.size → k ≠ a → k ≠ b → w'.heap[k]? = w.heap[k]?
  own : ∀ k n, OwnN w k n → OwnN w' k n
theorem Wr2.refl (a b : Nat) (w : World) : Wr2 a b w w := ⟨rfl, rfl, rfl, Nat.le_refl _, fun _ _ _ _ => rfl, fun _ _ h => h⟩
theorem Wr2.left {a b o n : Nat} {w w1 w2 : World} (h : Wr2 a b w w1) (k : Wr a o n w1 w2) : Wr2 a b w w2 :=
  ⟨k.os.trans h.os, k.tape.trans h.tape, k.output.trans h.output, Nat.le_trans h.size k.size, fun i hi ha hb => (k.block i (Nat.lt_of_lt_of_le hi h.size) ha).trans (h.block i hi ha hb), fun _ _ x => (h.own _ _ x).wr k⟩
theorem Wr2.right {a b o n : Nat} {w w1 w2 : World} (h : Wr2 a b w w1) (k : Wr b o n w1 w2) : Wr2 a b w w2 :=
  ⟨k.os.trans h.os, k.tape.trans h.tape, k.output.trans h.output, Nat.le_trans h.size k.size, fun i hi ha hb => (k.block i (Nat.lt_of_lt_of_le hi h.size) hb).trans (h.block i hi ha hb), fun _ _ x => (h.own _ _ x).wr k⟩
theorem Wr2.below {a b B : Nat} {w w' : World} (h : Wr2 a b w w') (ha : B ≤ a) (hb : B ≤ b) (hB : B ≤ w.heap.size) : Below B w w' := ⟨h.os, h.tape, h.output, h.size, fun k hk => h.block k (by omega) (by omega) (by omega)⟩
theorem Bx.wr2 {W w1 : World} {n a b : Nat} {v : Value} (h : Bx W n v) (k : Wr2 a b W w1) (ha : n ≠ a) (hb : n ≠ b) : Bx w1 n v :=
  ⟨(World.cell?_of_block (a := ⟨n, 0, none⟩) (k.block n h.lt ha hb)).trans h.1, (World.frozen?_of_block (a := ⟨n, 0, none⟩) (k.block n h.lt ha hb)).trans h.2, by obtain ⟨t, e⟩ := h.3; exact ⟨t, (k.block n h.lt ha hb).trans e⟩⟩
end Go.Proofs.YtiobnojcmeeikaaGreatDoor

namespace Go.Proofs.YtiobnojcmeeikaaGreatDoor
open Go.RowKit Tn

/-- The sign that goes with odd. -/
def sg (t : Bool) : Int := if t then -1 else 1
/-- What foresee answers: nothing, or steps that may be done. -/
def Seen (a b x0 y0 x1 y1 : Int) (t : Bool) : Prop :=
  x1 = 0 ∨ ((0 ≤ x0 ∧ x0 < 18446744073709551616) ∧ (0 ≤ y0 ∧ y0 < 18446744073709551616) ∧ (0 ≤ x1 ∧ x1 < 18446744073709551616) ∧ (0 ≤ y1 ∧ y1 < 18446744073709551616) ∧ 0 ≤ sg t * (y1 * b - x1 * a) ∧ sg t * (y1 * b - x1 * a) ≤ sg t * (x0 * a - y0 * b) ∧ sg t * (x0 * a - y0 * b) ≤ a ∧ sg t * (y1 * b - x1 * a) < b ∧ Int.gcd (sg t * (x0 * a - y0 * b)) (sg t * (y1 * b - x1 * a)) = Int.gcd a b)
end Go.Proofs.YtiobnojcmeeikaaGreatDoor

namespace Go.Proofs.YtiobnojcmeeikaaGreatDoor
open Go.RowKit Tn

/-- What foresee leaves. -/
def Fore (a b : Int) (w : World) (e : Ending) (w' : World) : Prop := ∃ x0 y0 x1 y1 t, e = .returned (.agg #[.int .u64 x0, .int .u64 y0, .int .u64 x1, .int .u64 y1, .bool t]) ∧ Seen a b x0 y0 x1 y1 t ∧ Below w.heap.size w w'
theorem Fore.mk {a b : Int} {w : World} {e : Ending} {w' : World} {x0 y0 x1 y1 : Int} {t : Bool} (h : e = .returned (.agg #[.int .u64 x0, .int .u64 y0, .int .u64 x1, .int .u64 y1, .bool t])) (h1 : Seen a b x0 y0 x1 y1 t) (h2 : Below w.heap.size w w') : Fore a b w e w' := ⟨x0, y0, x1, y1, t, h, h1, h2⟩
end Go.Proofs.YtiobnojcmeeikaaGreatDoor

namespace Go.Proofs.YtiobnojcmeeikaaGreatDoor
open Go.RowKit Tn

end Go.Proofs.YtiobnojcmeeikaaGreatDoor

namespace Go.Proofs.YtiobnojcmeeikaaGreatDoor
open Go.RowKit Tn

set_option maxRecDepth 100000 in
theorem copied_all (a : Option Addr) (c : Nat) (xs : List Int) (w : World) (hL : xs.length ≤ 549755813888) (h : 0 < xs.length → ∃ b o, a = some ⟨b, o, none⟩ ∧ Cells w b o xs) :
    Calls Tryz.prog 52 #[.agg #[.slice a xs.length c]] w fun e w' => ∃ g, e = .returned (.agg #[.slice (some ⟨g, 0, none⟩) xs.length xs.length]) ∧ w.heap.size < g ∧ g < w'.heap.size ∧ OwnN w' g xs.length ∧ Cells w' g 0 xs ∧ Below w.heap.size w w' := by
  have hs : Hid (∀ w', Below w.heap.size w w' → 0 < xs.length → ∃ b o, a = some ⟨b, o, none⟩ ∧ Cells w' b o xs) := fun w' k l => by obtain ⟨b, o, e, q⟩ := h l; exact ⟨b, o, e, q.grow k⟩
  clear h
  go_enter Tryz.func52, Tryz.ntmps52
  go_wp2_with (first
    | (at_make; refine wpList_make_wordsN rfl _ _ rfl xs.length _ _ rfl rfl rfl rfl (by omega) ?_; intro w1 k1 k2 k3 k4; have X0 := ((Bx.new w _ _).alloc _).below k3; have X1 := (Bx.new _ _ _).below k3; simp only [World.size_alloc] at X1 k1 k2 k3 k4; have q0 := below_alloc2 k3; clear k3; have x0 := X0.1)
    | ((with_reducible refine at_copy ?_); refine wpList_copy_words rfl _ _ rfl (List.replicate xs.length 0) xs _ 0 _ a _ _ _ rfl rfl (by simp) rfl (by simp) k1 k2.own (fun l => hs.out w1 q0 l) ?_; intro w2 k5 k6; rw [List.drop_of_length_le (by simp), List.append_nil] at k5; have Y1 := X1.wr k6 (by omega); have p0 := q0.trans (k6.below (B := w.heap.size) (by omega) (by omega)); have y1 := Y1.1; have y2 := Y1.2)
    | fail)
  have W1 : Wr (w.heap.size + 1) 0 1 w2 (w2.setCell ⟨w.heap.size + 1, 0, none⟩ (.slice (some ⟨w.heap.size + 1 + 1, 0, none⟩) xs.length xs.length)) := (Wr.refl _ _ _ _).setCell 0 (by omega) _
  have z := W1.size
  have z2 := k6.size
  refine bodyPost_ret (v := .agg #[.slice (some ⟨w.heap.size + 1 + 1, 0, none⟩) xs.length xs.length]) (by simp [results, Tryz.results52, go_sem, y1]) rfl ⟨w.heap.size + 1 + 1, rfl, by omega, by omega, (k2.wr k6).wr W1, k5.other W1 (by omega), below_put p0 (by omega) _⟩

set_option maxRecDepth 100000 in
/-- (Nat).lowest. -/
theorem lowest_any (v : Value) (xs : List Int) (w : World) (h : Rd w v xs) (n : Nm xs) :
    Calls Tryz.prog 59 #[.agg #[v]] w fun e w' => e = .returned (.int .u64 (nth xs 0)) ∧ Below w.heap.size w w' := by
  have H : Hid (Rd w v xs) := h
  obtain ⟨wx, a, c, rfl, _, _, g⟩ := h
  have pr : Below w.heap.size w (w.alloc (.cells #[.slice a xs.length c] 56)) := (Below.refl _ _).alloc (Nat.le_refl _) _
  by_cases h0 : xs = []
  · subst h0
    go_enter Tryz.func59, Tryz.ntmps59
    go_wp2_with (go_at_call 32; refine (iszero_len a _ _ _).mono ?_; rintro e w1 ⟨rfl, hb⟩)
    go_ret
    exact ⟨by simp [nth], pr.trans (hb.mono pr.size)⟩
  · have hl : 0 < xs.length := List.length_pos_iff.2 h0
    obtain ⟨b, o, rfl, hc⟩ := g hl
    have hb0 := hc.lt hl
    have hz : (xs.length == 0) = false := by rw [beq_eq_false_iff_ne]; omega
    have c0 := hc.at (i := 0) hl
    rw [Nat.add_zero] at c0
    clear h0
    go_enter Tryz.func59, Tryz.ntmps59
    go_wp2_with (go_at_call 32; refine (iszero_len (some ⟨b, o, none⟩) _ _ _).mono ?_; rintro e w1 ⟨rfl, hb⟩; rw [hz]; have X0 := (Bx.new w _ _).below hb; have x0 := X0.1; have pb := pr.trans (hb.mono pr.size); have c1 := (pb.cell (p := ⟨b, o, none⟩) hb0).trans c0)
    go_ret
    exact ⟨rfl, pb⟩
end Go.Proofs.YtiobnojcmeeikaaGreatDoor

namespace Go.Proofs.YtiobnojcmeeikaaGreatDoor
open Go.RowKit Tn

theorem Blk.ne {w : World} {n g k : Nat} {c : Array Value} {t : TypeId} (h : Blk w n c t) (o : OwnN w g k) (ht : t ≠ 22) : n ≠ g := by
  rintro rfl
  obtain ⟨c', e, _⟩ := o
  have := h.symm.trans e
  simp at this
  exact ht this.2
theorem Bx.ne {w : World} {n g : Nat} {a : Option Addr} {l c : Nat} {ys : List Int} (h : Bx w n (.slice a l c)) (o : Cells w g 0 ys) (hl : 0 < ys.length) : n ≠ g := by
  rintro rfl
  have := o 0 hl
  rw [h.1] at this; simp at this

end Go.Proofs.YtiobnojcmeeikaaGreatDoor

namespace Go.Proofs.YtiobnojcmeeikaaGreatDoor
open Go.RowKit Tn

theorem Bx.blocks {w w' : World} {n : Nat} {v : Value} (h : Bx w n v) (k : w'.heap[n]? = w.heap[n]?) : Bx w' n v :=
  ⟨(World.cell?_of_block (a := ⟨n, 0, none⟩) k).trans h.1, (World.frozen?_of_block (a := ⟨n, 0, none⟩) k).trans h.2, by obtain ⟨t, e⟩ := h.3; exact ⟨t, k.trans e⟩⟩
end Go.Proofs.YtiobnojcmeeikaaGreatDoor

namespace Go.Proofs.YtiobnojcmeeikaaGreatDoor
open Go.RowKit Tn

theorem Bx.set {w : World} {n : Nat} {v : Value} (h : Bx w n v) (u : Value) : Bx (w.setCell ⟨n, 0, none⟩ u) n u := by
  have hl := h.lt
  obtain ⟨t, e⟩ := h.3
  have e2 : (w.setCell ⟨n, 0, none⟩ u).heap[n]? = some (.cells #[u] t (0, 0)) := by
    have hl' : w.heap[n] = .cells #[v] t (0, 0) := by rw [Array.getElem?_eq_getElem hl] at e; exact Option.some.inj e
    simp [World.setCell, hl, Array.getElem_modify, hl']
  refine ⟨World.cell?_setCell_same _ _ _ h.1, ?_, t, e2⟩
  have := h.2
  simp only [World.frozen?, e, e2] at this ⊢
  exact this
/-- Two rows of the call's own, apart. -/
def Two (w : World) (n : Nat) (u v : Value) : Prop := ∃ g1 g2 l1 l2 c1 c2, u = .slice (some ⟨g1, 0, none⟩) l1 c1 ∧ v = .slice (some ⟨g2, 0, none⟩) l2 c2 ∧ g1 ≠ g2 ∧ n + 1 + 1 + 1 ≤ g1 ∧ n + 1 + 1 + 1 ≤ g2 ∧ OwnN w g1 c1 ∧ OwnN w g2 c2
/-- Where GCD stands: its three variables, the two numbers, their divisor. -/
def St (n : Nat) (G : Nat) (L : Nat) (own : Bool) (w wr : World) : Prop := ∃ a1 l1 c1 a2 l2 c2 A B, Bx wr n (.slice a1 l1 c1) ∧ Bx wr (n + 1) (.slice a2 l2 c2) ∧ Bx wr (n + 1 + 1) (.slice none 0 0) ∧ Rd wr (.slice a1 l1 c1) A ∧ Rd wr (.slice a2 l2 c2) B ∧ Nm A ∧ Nm B ∧ val B ≤ val A ∧ Int.gcd (val A) (val B) = G ∧ A.length ≤ L ∧ (own = true → 1 < l2 → Two wr n (.slice a1 l1 c1) (.slice a2 l2 c2)) ∧ Below n w wr

def cellNum (w : World) (p : Addr) : Int := match w.cell? p with | some (.int _ x) => x | _ => 0
def rowNum (w : World) : Value → Nat
  | .slice (some p) l _ => (val ((List.range l).map fun i => cellNum w ⟨p.block, p.off + i, none⟩)).toNat
  | _ => 0
theorem rowNum_rd {w : World} {v : Value} {xs : List Int} (h : Rd w v xs) : rowNum w v = (val xs).toNat := by
  obtain ⟨_, a, c, rfl, _, _, g⟩ := h
  by_cases h0 : xs = []
  · subst h0; cases a <;> simp [rowNum, val]
  · obtain ⟨b, o, rfl, hc⟩ := g (List.length_pos_iff.2 h0)
    simp only [rowNum]
    congr 2
    apply List.ext_getElem?
    intro i
    by_cases hi : i < xs.length
    · have := hc i hi
      simp [List.getElem?_map, List.getElem?_range hi, cellNum, this, nth, List.getD_eq_getElem?_getD, List.getElem?_eq_getElem hi]
    · rw [List.getElem?_eq_none (by simp; omega), List.getElem?_eq_none (by omega)]
theorem len_mono {A B : List Int} (hA : Wd A) (hB : Wd B) (nB : Nm B) (h : val B ≤ val A) : B.length ≤ A.length := by
  by_cases c : B.length ≤ A.length
  · exact c
  · have := val_lt_of_length hA hB nB (by omega); omega
theorem St.drew {n G L : Nat} {o : Bool} {w wr : World} (h : St n G L o w wr) : St n G L o w wr.drew := by
  obtain ⟨a1, l1, c1, a2, l2, c2, A, B, b0, b1, b2, r1, r2, n1, n2, v, g, l, t, b⟩ := h
  exact ⟨a1, l1, c1, a2, l2, c2, A, B, b0.drew, b1.drew, b2.drew, r1.drew, r2.drew, n1, n2, v, g, l, t, b.drew⟩
theorem gcd_of_div {a b z r : Int} (h : a = z * b + r) : Int.gcd b r = Int.gcd a b := by
  have e : r = a - z * b := by omega
  rw [e]; exact gcd_step a b z
theorem gcd_nought {a : Int} (h : 0 ≤ a) : a = (Int.gcd a 0 : Int) := by
  rw [Int.gcd_zero_right]; omega
end Go.Proofs.YtiobnojcmeeikaaGreatDoor

namespace Go.Proofs.YtiobnojcmeeikaaGreatDoor
open Go.RowKit Tn

end Go.Proofs.YtiobnojcmeeikaaGreatDoor

namespace Go.Proofs.YtiobnojcmeeikaaGreatDoor
open Go.RowKit Tn

end Go.Proofs.YtiobnojcmeeikaaGreatDoor

namespace Go.Proofs.YtiobnojcmeeikaaGreatDoor
open Go.RowKit Tn

end Go.Proofs.YtiobnojcmeeikaaGreatDoor

namespace Go.Proofs.YtiobnojcmeeikaaGreatDoor
open Go.RowKit Tn

/-- A byte that is a decimal digit. -/
def Dg (b : UInt8) : Prop := 48 ≤ (b.toNat : Int) ∧ (b.toNat : Int) ≤ 57
end Go.Proofs.YtiobnojcmeeikaaGreatDoor

namespace Go.Proofs.YtiobnojcmeeikaaGreatDoor
open Go.RowKit Tn

end Go.Proofs.YtiobnojcmeeikaaGreatDoor

namespace Go.Proofs.YtiobnojcmeeikaaGreatDoor
open Go.RowKit Tn

end Go.Proofs.YtiobnojcmeeikaaGreatDoor

namespace Go.Proofs.YtiobnojcmeeikaaGreatDoor.Mo
open Go.RowKit Dc

end Go.Proofs.YtiobnojcmeeikaaGreatDoor.Mo

namespace Go.Proofs.YtiobnojcmeeikaaGreatDoor
open Go.RowKit Tn

end Go.Proofs.YtiobnojcmeeikaaGreatDoor
