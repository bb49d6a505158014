import Derived.Test.YtebilgnmnambnaaGreatDoorProg
import Derived.Test.YtebilgnmnambnaaGreatDoorPart01
import Derived.Laws.CopyOwn
import Derived.Laws.BytesArg
import Derived.Lib.ItoaNum
import Derived.Lib.ParseIntB
import Derived.WalkKit
import Derived.WalkSpells
import Derived.WalkSmall
import Derived.Deep.QuietTactic
import Derived.BigQuiet
import Derived.Laws.Strings

namespace Go.Proofs.YtebilgnmnambnaaGreatDoor
open Go.RowKit Tn
theorem Tryz.infoU : (Tryz.prog.info? 87).map (fun i => (i.zero, i.size, i.bytes)) = some (some (.int .u64 0), 1, 8) := by kernel_rfl
theorem Tryz.sizeU : (Tryz.prog.info? 87).map (·.size) = some 1 := by kernel_rfl
theorem nth_replicate (n i : Nat) : nth (List.replicate n 0) i = 0 := by
  unfold nth
  by_cases h : i < n
  · simp [List.getD_eq_getElem?_getD, h]
  · simp [List.getD_eq_getElem?_getD, Nat.le_of_not_lt h]
theorem wpList_make_words {w : World} {ops : Array Oper} {rest : List Oper} {o : Oper} {a : Act} {Q : Exit → Act → World → Prop}
    (hg : o.guard = none) (l c : Operand) (hop : o.op = Op.makeSlice 63 l c) (n : Nat) (L C : Int) (hl : a.eval l = .int .i64 L) (hc : a.eval c = .int .i64 C) (hL : L = (n : Int)) (hC : C = (n : Int)) (hn : n ≤ 35184372088832)
    (hK : ∀ w', Cells w' w.heap.size 0 (List.replicate n 0) → Own w' w.heap.size → Below w.heap.size w w' → w.heap.size < w'.heap.size → wpList Tryz.prog ops Q rest (a.put o.dst (.slice (some ⟨w.heap.size, 0, none⟩) n n)) w') :
    wpList Tryz.prog ops Q (o :: rest) a w := by
  obtain ⟨i, hi, hz0, hz1, hz2⟩ := info_parts Tryz.infoU
  refine wpList_make_full w hg l c 63 hop w.heap.size 87 i (.int .u64 0) 1 Tryz.underlying63 hi hz0 hz1 .i64 .i64 L C n hl hc hL hC (by rw [hz2]; omega) (by unfold maxLen; omega) (Nat.le_refl _) ?_
  intro w' ho hgr
  obtain ⟨_, h2⟩ := ho
  rcases h2 with ⟨e, _⟩ | ⟨g, cap, cur, e, hb, hh, h3, h4, h5, h6⟩
  · simp at e
  · simp only [Value.slice.injEq, Option.some.injEq, Addr.mk.injEq] at e
    obtain ⟨⟨e1, _, _⟩, _, e2⟩ := e
    subst e1
    have hbl : Below w.heap.size w w' := ⟨hgr.os, hgr.tape, hgr.output, hgr.size, fun k hk => hgr.block k hk (by simp)⟩
    refine hK w' ?_ ⟨cur, _, hh⟩ hbl (Own.lt ⟨cur, _, hh⟩)
    intro j hj
    rw [List.length_replicate] at hj
    simp only [Nat.mul_one] at h6 h5
    have hc6 : (Value.int .u64 0).cells = #[Value.int .u64 0] := rfl
    rw [hc6, toList_madeCells_one] at h6
    have h7 : cur.toList[j]? = some (.int .u64 0) := by
      have := congrArg (fun l : List Value => l[j]?) h6
      simp only [List.getElem?_take, hj, if_true, List.getElem?_replicate] at this
      exact this
    rw [nth_replicate]
    simp only [World.cell?, hh, Nat.zero_add]
    simpa using h7
theorem Tryz.elemU : Tryz.prog.elem 63 = 87 := by kernel_rfl
theorem slice_lh (g o len cap : Nat) (l h : Int) (lo n : Nat) (el : l = lo) (eh : h = (lo : Int) + n) (h2 : lo + n ≤ cap) (hne : lo < cap) (w : World) :
    (Instr.slice 63 (.slice (some ⟨g, o, none⟩) len cap) (some (.int .i64 l)) (some (.int .i64 h)) none).run Tryz.prog w = .ok (.slice (some ⟨g, o + lo, none⟩) n (cap - lo)) w := by
  subst el eh
  rw [run_slice_lh w 63 _ len cap (by rw [Tryz.elemU]; exact Tryz.underlying63) .i64 .i64 _ _ (by omega) (by omega) (by omega), Tryz.elemU]
  have e1 : ((lo : Int) + n).toNat = lo + n := by omega
  have e2 : ¬ cap = lo := by omega
  simp [Tryz.sizeOf87, Result.andThen, sliced, e1, e2, Addr.add]
theorem cell_setRow (w : World) (g : Nat) (c cs : Array Value) (t : TypeId) (f : Nat × Nat) (h : w.heap[g]? = some (.cells c t f)) (i : Nat) : (w.setRow g cs).cell? ⟨g, i, none⟩ = cs[i]? := by
  simp [World.cell?, World.setRow, Array.getElem?_modify, h]
theorem setRow_at (w : World) (g : Nat) (c cs : Array Value) (t : TypeId) (f : Nat × Nat) (h : w.heap[g]? = some (.cells c t f)) : (w.setRow g cs).heap[g]? = some (.cells cs t f) := by
  simp [World.setRow, Array.getElem?_modify, h]
theorem at_copy {P : Program} {w : World} {ops : Array Oper} {rest : List Oper} {a : Act} {Q : Exit → Act → World → Prop} {ds : Option Tmp} {ar : Array Operand} {ts : Array TypeId} {ty : TypeId} {p : String} {af : Array Edge} {g : Option (Nat × Bool)}
    (h : wpList P ops Q (⟨ds, .call { callee := .builtin .copy, args := ar, argTypes := ts }, ty, p, af, g⟩ :: rest) a w) : wpList P ops Q (⟨ds, .call { callee := .builtin .copy, args := ar, argTypes := ts }, ty, p, af, g⟩ :: rest) a w := h
theorem wpList_copy_words {w : World} {ops : Array Oper} {rest : List Oper} {o : Oper} {a : Act} {Q : Exit → Act → World → Prop}
    (hgd : o.guard = none) (d s : Operand) (ho : o.op = .call { callee := .builtin .copy, args := #[d, s], argTypes := #[63, 63] })
    (X Y : List Int) (g off dCap : Nat) (sp : Option Addr) (sLen sCap dLen : Nat) (hd : a.eval d = .slice (some ⟨g, off, none⟩) dLen dCap) (hs : a.eval s = .slice sp sLen sCap) (eX : dLen = X.length) (eY : sLen = Y.length)
    (hle : Y.length ≤ X.length) (hX : Cells w g off X) (hO : Own w g) (hY : 0 < Y.length → ∃ b o, sp = some ⟨b, o, none⟩ ∧ Cells w b o Y)
    (hK : ∀ w', Cells w' g off (Y ++ X.drop Y.length) → Wr g off X.length w w' → wpList Tryz.prog ops Q rest (a.put o.dst (goInt Y.length)) w') :
    wpList Tryz.prog ops Q (o :: rest) a w := by
  subst eX eY
  by_cases h0 : Y.length = 0
  · obtain rfl : Y = [] := List.eq_nil_of_length_eq_zero h0
    refine wpList_copy_nothing hgd d s _ _ ho 87 Tryz.underlying63 Tryz.sizeU _ _ _ _ _ _ hd hs (by simp) ?_
    exact hK w (by simpa using hX) (Wr.refl _ _ _ _)
  · obtain ⟨b2, o2, rfl, hcY⟩ := hY (by omega)
    obtain ⟨cur, t, hh⟩ := hO
    have hsz : off + X.length ≤ cur.size := by
      have h1 := hX (X.length - 1) (by omega)
      simp only [World.cell?, hh, Option.isSome_none, Bool.false_eq_true, if_false] at h1
      have := (Array.getElem?_eq_some_iff.1 h1).1
      omega
    refine wpList_copy_own hgd d s _ _ ho 87 Tryz.underlying63 Tryz.sizeU g off X.length dCap ⟨b2, o2, none⟩ Y.length sCap hd hs cur t hh (Y.map (Value.int .u64)) (by rw [List.length_map]; exact (Nat.min_eq_left hle).symm) ?_ (by rw [List.length_map]; omega) (by intro v hv; obtain ⟨x, _, rfl⟩ := List.mem_map.1 hv; rfl) ?_
    · intro j v hj
      rw [List.getElem?_map] at hj
      by_cases hlt : j < Y.length
      · rw [List.getElem?_eq_getElem hlt] at hj
        have := hcY j hlt
        simp only [nth, List.getD_eq_getElem?_getD, List.getElem?_eq_getElem hlt, Option.getD_some] at this
        simp only [Option.map_some, Option.some.injEq] at hj
        subst hj
        rw [show (⟨b2, o2, none⟩ : Addr).add j = ⟨b2, o2 + j, none⟩ from by simp [Addr.add]]
        exact this
      · rw [List.getElem?_eq_none (Nat.le_of_not_lt hlt)] at hj; simp at hj
    · have hY' : (Y.map (Value.int .u64)).length = Y.length := List.length_map ..
      rw [hY']
      refine hK _ ?_ ?_
      · intro i hi
        rw [List.length_append, List.length_drop] at hi
        rw [cell_setRow w g cur _ t _ hh]
        have hoff : (cur.toList.take off).length = off := by rw [List.length_take]; simp; omega
        rw [List.getElem?_toArray, List.getElem?_append_right (by omega), hoff, Nat.add_sub_cancel_left]
        by_cases hlt : i < Y.length
        · rw [List.getElem?_append_left (by rw [hY']; exact hlt), List.getElem?_map, List.getElem?_eq_getElem hlt]
          simp [nth, List.getD_eq_getElem?_getD, List.getElem?_append_left hlt, List.getElem?_eq_getElem hlt]
        · rw [List.getElem?_append_right (by omega), hY', List.getElem?_drop]
          have h1 := hX i (by omega)
          simp only [World.cell?, hh, Option.isSome_none, Bool.false_eq_true, if_false] at h1
          have e : off + Y.length + (i - Y.length) = off + i := by omega
          rw [e, Array.getElem?_toList, h1]
          have e2 : nth (Y ++ X.drop Y.length) i = nth X i := by
            unfold nth
            rw [List.getD_eq_getElem?_getD, List.getElem?_append_right (by omega), List.getElem?_drop, List.getD_eq_getElem?_getD]
            congr 2; omega
          rw [e2]
      · refine ⟨rfl, rfl, rfl, by simp [World.setRow], fun k _ hk => setRow_other w g k _ hk, ?_, ?_, ?_⟩
        · intro i hi
          rw [cell_setRow w g cur _ t _ hh]
          have hoff : (cur.toList.take off).length = off := by rw [List.length_take]; simp; omega
          simp only [World.cell?, hh, Option.isSome_none, Bool.false_eq_true, if_false]
          rw [List.getElem?_toArray]
          rcases hi with hi | hi
          · rw [List.getElem?_append_left (by omega), List.getElem?_take_of_lt (by omega), Array.getElem?_toList]
          · rw [List.getElem?_append_right (by omega), hoff, List.getElem?_append_right (by omega), hY', List.getElem?_drop, Array.getElem?_toList]
            congr 1; omega
        · intro i
          simp [World.frozen?, setRow_at w g cur _ t _ hh, hh]
        · intro c t' f e
          rw [hh] at e
          simp only [Option.some.injEq, Obj.cells.injEq] at e
          obtain ⟨rfl, rfl, rfl⟩ := e
          refine ⟨_, setRow_at w g cur _ t _ hh, ?_⟩
          simp; omega
end Go.Proofs.YtebilgnmnambnaaGreatDoor

namespace Dc
open Go Go.Lib
theorem pow_le_of_pos (u : Nat) (h : 0 < u) : 10 ^ (nDigits u - 1) ≤ u := by
  induction u using Nat.strongRecOn with
  | _ u ih =>
    by_cases h1 : u < 10
    · rw [nDigits_small h1]; simp; omega
    · rw [nDigits_big h1]
      have := ih (u / 10) (by omega) (by omega)
      have p := nDigits_pos (u / 10)
      rw [show nDigits (u / 10) + 1 - 1 = nDigits (u / 10) - 1 + 1 from by omega, Nat.pow_succ]
      omega
theorem nDigits_le {u n : Nat} (hn : 0 < n) (h : u < 10 ^ n) : nDigits u ≤ n := by
  by_cases h0 : u = 0
  · subst h0; rw [nDigits_small (by decide)]; exact hn
  · have := pow_le_of_pos u (by omega)
    have l : 10 ^ (nDigits u - 1) < 10 ^ n := by omega
    have := (Nat.pow_lt_pow_iff_right (by decide : 1 < 10)).1 l
    omega
def dgs (V N c : Nat) : List Int := (List.range c).map fun s => 48 + ((V / 10 ^ (N - 1 - s) % 10 : Nat) : Int)
theorem dgs_zero (V N : Nat) : dgs V N 0 = [] := rfl
theorem dgs_succ (V N c : Nat) : dgs V N (c + 1) = dgs V N c ++ [48 + ((V / 10 ^ (N - 1 - c) % 10 : Nat) : Int)] := by
  simp [dgs, List.range_succ]
theorem dgs_length (V N c : Nat) : (dgs V N c).length = c := by simp [dgs]
theorem dgs_at (V N c i : Nat) (h : i < c) : (dgs V N c).getD i 0 = 48 + ((V / 10 ^ (N - 1 - i) % 10 : Nat) : Int) := by
  simp [dgs, List.getD_eq_getElem?_getD, h]
theorem top_digit (V : Nat) (h : 0 < V) : V / 10 ^ (nDigits V - 1) % 10 ≠ 0 := by
  have a := pow_le_of_pos V h
  have b := lt_pow_nDigits V
  have p := nDigits_pos V
  rw [show nDigits V = nDigits V - 1 + 1 from by omega, Nat.pow_succ] at b
  have q : 0 < 10 ^ (nDigits V - 1) := Nat.pow_pos (by decide)
  generalize 10 ^ (nDigits V - 1) = t at *
  have h1 : 1 ≤ V / t := (Nat.le_div_iff_mul_le q).2 (by omega)
  have h2 : V / t < 10 := (Nat.div_lt_iff_lt_mul q).2 (by omega)
  omega
theorem high_digit (V j : Nat) (h : nDigits V ≤ j) : V / 10 ^ j = 0 := by
  rw [Nat.div_eq_zero_iff]
  right
  exact Nat.lt_of_lt_of_le (lt_pow_nDigits V) (Nat.pow_le_pow_right (by decide) h)
theorem dgs_str (V N : Nat) (h : nDigits V ≤ N) : strOfNums ((dgs V N N).drop (N - nDigits V)) = ⟨(decDigits V).toArray⟩ := by
  unfold strOfNums
  congr 2
  rw [decDigits_eq]
  apply List.ext_getElem
  · simp [dgs_length]; omega
  · intro i h1 h2
    simp [dgs, dg] at h1 h2 ⊢
    rw [show N - 1 - (N - nDigits V + i) = nDigits V - 1 - i from by omega]
    have : (48 + (V : Int) / 10 ^ (nDigits V - 1 - i) % 10).toNat = 48 + V / 10 ^ (nDigits V - 1 - i) % 10 := by
      have : ((V / 10 ^ (nDigits V - 1 - i) % 10 : Nat) : Int) = (V : Int) / 10 ^ (nDigits V - 1 - i) % 10 := by simp
      omega
    rw [this]
    simp
theorem part_digit (A t : Nat) (h : t ≤ 8) : (A % 1000000000) / (100000000 / 10 ^ t) % 10 = A / 10 ^ (8 - t) % 10 := by
  have e : (100000000 : Nat) / 10 ^ t = 10 ^ (8 - t) := by
    rw [show (100000000 : Nat) = 10 ^ 8 from rfl, Nat.pow_div h (by decide)]
  rw [e, show (1000000000 : Nat) = 10 ^ (8 - t) * 10 ^ (t + 1) from by rw [← Nat.pow_add, show 8 - t + (t + 1) = 9 from by omega], Nat.mod_mul_right_div_self]
  rw [Nat.mod_mod_of_dvd]
  exact ⟨10 ^ t, by rw [Nat.pow_succ, Nat.mul_comm]⟩
theorem unit_next (t : Nat) : (100000000 : Nat) / 10 ^ t / 10 = 100000000 / 10 ^ (t + 1) := by
  rw [Nat.div_div_eq_div_mul, Nat.pow_succ]
theorem unit_pos {t : Nat} (h : t ≤ 8) : 0 < (100000000 : Nat) / 10 ^ t := by
  rw [show (100000000 : Nat) = 10 ^ 8 from rfl, Nat.pow_div h (by decide)]
  exact Nat.pow_pos (by decide)
theorem unit_end : (100000000 : Nat) / 10 ^ 9 = 0 := by decide
theorem unit_le (t : Nat) : (100000000 : Nat) / 10 ^ t ≤ 100000000 := Nat.div_le_self _ _
theorem place (V i t m : Nat) (hi : i < m) (ht : t ≤ 8) : (V / 10 ^ (9 * i) % 1000000000) / (100000000 / 10 ^ t) % 10 = V / 10 ^ (9 * m - 1 - (9 * (m - 1 - i) + t)) % 10 := by
  rw [part_digit _ _ ht, Nat.div_div_eq_div_mul, ← Nat.pow_add]
  congr 3
  omega
def num : List UInt8 → Nat := List.foldl (fun a c => 10 * a + (c.toNat - 48)) 0
theorem num_append (a b : List UInt8) : num (a ++ b) = num a * 10 ^ b.length + num b := by
  unfold num
  rw [List.foldl_append]
  generalize List.foldl (fun a c => 10 * a + (UInt8.toNat c - 48)) 0 a = x
  induction b generalizing x with
  | nil => simp
  | cons c b ih =>
    rw [List.foldl_cons, ih, List.foldl_cons, ih (10 * 0 + (c.toNat - 48)), List.length_cons, Nat.pow_succ]
    grind
theorem num_single (c : UInt8) : num [c] = c.toNat - 48 := by simp [num]
end Dc

namespace Dc
open Go Go.Lib
def Dg (b : UInt8) : Prop := 48 ≤ b.toNat ∧ b.toNat ≤ 57
theorem num_take (l : List UInt8) (k : Nat) (h : k < l.length) : num (l.take (k + 1)) = num (l.take k) * 10 + ((l[k]).toNat - 48) := by
  rw [List.take_add_one, num_append]
  simp [List.getElem?_eq_getElem h, num_single]
theorem num_lt_take (l : List UInt8) (h : ∀ c ∈ l, Dg c) (k : Nat) (hk : k ≤ l.length) : num (l.take k) < 10 ^ k := by
  induction k with
  | zero => simp [num]
  | succ k ih =>
    have a := ih (by omega)
    have b := h l[k] (List.getElem_mem _)
    unfold Dg at b
    rw [num_take l k (by omega), Nat.pow_succ]
    omega
theorem num_lt (l : List UInt8) (h : ∀ c ∈ l, Dg c) : num l < 10 ^ l.length := by
  have := num_lt_take l h l.length (Nat.le_refl _)
  rwa [List.take_length] at this
theorem at_list (s : ByteArray) (k : Nat) (h : k < s.size) : s[k] = s.data.toList[k]'(by simpa using h) := rfl
theorem num_cons (c : UInt8) (r : List UInt8) : num (c :: r) = (c.toNat - 48) * 10 ^ r.length + num r := by
  have := num_append [c] r
  rw [num_single] at this
  exact this
theorem parse19 (l : List UInt8) (h : ∀ c ∈ l, Dg c) (acc k : Nat) (ha : acc < 10 ^ k) (hk : k + l.length ≤ 19) : Go.Lib.parseUintM (2 ^ 64 - 1) acc l = .ok (acc * 10 ^ l.length + num l) := by
  induction l generalizing acc k with
  | nil => simp [Go.Lib.parseUintM, num]
  | cons c r ih =>
    have hc := h c (by simp)
    unfold Dg at hc
    rw [List.length_cons] at hk
    have p : 10 ^ k ≤ 10 ^ 18 := Nat.pow_le_pow_right (by decide) (by omega)
    have e18 : (10 : Nat) ^ 18 = 1000000000000000000 := by decide
    have e64 : (2 : Nat) ^ 64 - 1 = 18446744073709551615 := by decide
    have step := ih (fun c hc => h c (by simp [hc])) (acc * 10 + (c.toNat - 48)) (k + 1) (by rw [Nat.pow_succ]; omega) (by omega)
    rw [Go.Lib.parseUintM, if_pos hc, if_neg (by omega), if_neg (by rw [e64]; omega), step, num_cons, List.length_cons, Nat.pow_succ]
    congr 1
    grind
theorem parse19B (l : List UInt8) (h : ∀ c ∈ l, Dg c) (ne : l ≠ []) (hk : l.length ≤ 19) : Go.Lib.parseUintB 64 l = .ok (num l) := by
  unfold Go.Lib.parseUintB
  rw [if_neg ne, parse19 l h 0 0 (by decide) (by omega)]
  simp
end Dc

namespace Dc
def bt (s : ByteArray) (i : Nat) : Nat := if h : i < s.size then s[i].toNat else 256
theorem bt_in {s : ByteArray} {i : Nat} (h : i < s.size) : bt s i = s[i].toNat := by simp [bt, h]
theorem bt_out {s : ByteArray} {i : Nat} (h : s.size ≤ i) : bt s i = 256 := by simp [bt, Nat.not_lt.2 h]
theorem ex_size (s : ByteArray) (a : Nat) : (s.extract a s.size).size = s.size - a := by rw [ByteArray.size_extract]; omega
def neg (s : ByteArray) : Bool := decide (bt s 0 = 45)
def fr (s : ByteArray) : Nat := if neg s then 1 else 0
def rest (s : ByteArray) : ByteArray := if neg s then s.extract 1 s.size else s
theorem ex_all (s : ByteArray) : s.extract 0 s.size = s := by
  apply ByteArray.ext
  simp
theorem rest_ex (s : ByteArray) : rest s = s.extract (fr s) s.size := by
  unfold rest fr
  split
  · rfl
  · rw [ex_all]
end Dc

namespace Tl
def val : List Int → Int
  | [] => 0
  | x :: xs => x + 1073741824 * val xs
def pw : Nat → Int
  | 0 => 1
  | n + 1 => 1073741824 * pw n
def Wd (xs : List Int) : Prop := ∀ x, x ∈ xs → 0 ≤ x ∧ x < 1073741824
theorem pw_pos (n : Nat) : 0 < pw n := by
  induction n with
  | zero => simp [pw]
  | succ n ih => simp only [pw]; omega
theorem pw_add (m n : Nat) : pw (m + n) = pw m * pw n := by
  induction m with
  | zero => simp [pw]
  | succ m ih => rw [Nat.succ_add]; simp only [pw, ih]; grind
theorem pw_mono {m n : Nat} (h : m ≤ n) : pw m ≤ pw n := by
  obtain ⟨k, rfl⟩ := Nat.exists_eq_add_of_le h
  rw [pw_add]
  have h1 := pw_pos m
  have h2 : 1 ≤ pw k := pw_pos k
  have := Int.mul_le_mul_of_nonneg_left h2 (Int.le_of_lt h1)
  omega
theorem Wd.nil : Wd [] := by intro x h; simp at h
theorem Wd.cons {x : Int} {xs : List Int} (h0 : 0 ≤ x) (h1 : x < 1073741824) (h : Wd xs) : Wd (x :: xs) := by
  intro y hy
  rcases List.mem_cons.1 hy with rfl | hy
  · exact ⟨h0, h1⟩
  · exact h y hy
theorem Wd.head {x : Int} {xs : List Int} (h : Wd (x :: xs)) : 0 ≤ x ∧ x < 1073741824 := h x (by simp)
theorem Wd.tail {x : Int} {xs : List Int} (h : Wd (x :: xs)) : Wd xs := fun y hy => h y (by simp [hy])
theorem Wd.append {xs ys : List Int} (h : Wd xs) (k : Wd ys) : Wd (xs ++ ys) := by
  intro y hy
  rcases List.mem_append.1 hy with hy | hy
  · exact h y hy
  · exact k y hy
theorem Wd.take {xs : List Int} (h : Wd xs) (n : Nat) : Wd (xs.take n) := fun y hy => h y (List.mem_of_mem_take hy)
theorem Wd.drop {xs : List Int} (h : Wd xs) (n : Nat) : Wd (xs.drop n) := fun y hy => h y (List.mem_of_mem_drop hy)
theorem Wd.set {xs : List Int} (h : Wd xs) (n : Nat) {v : Int} (h0 : 0 ≤ v) (h1 : v < 1073741824) : Wd (xs.set n v) := by
  intro y hy
  rcases List.mem_or_eq_of_mem_set hy with hy | rfl
  · exact h y hy
  · exact ⟨h0, h1⟩
theorem Wd.get {xs : List Int} (h : Wd xs) (i : Nat) : 0 ≤ xs.getD i 0 ∧ xs.getD i 0 < 1073741824 := by
  by_cases hi : i < xs.length
  · simp only [List.getD_eq_getElem?_getD, List.getElem?_eq_getElem hi, Option.getD_some]; exact h _ (List.getElem_mem hi)
  · simp [List.getD_eq_getElem?_getD, List.getElem?_eq_none (Nat.le_of_not_lt hi)]
theorem val_append (xs ys : List Int) : val (xs ++ ys) = val xs + pw xs.length * val ys := by
  induction xs with
  | nil => simp [val, pw]
  | cons x xs ih => simp only [List.cons_append, val, ih, List.length_cons, pw]; grind
theorem val_nonneg {xs : List Int} (h : Wd xs) : 0 ≤ val xs := by
  induction xs with
  | nil => simp [val]
  | cons x xs ih => have := ih h.tail; have := h.head; simp only [val]; omega
theorem val_lt {xs : List Int} (h : Wd xs) : val xs < pw xs.length := by
  induction xs with
  | nil => simp [val, pw]
  | cons x xs ih => have := ih h.tail; have := h.head; simp only [val, List.length_cons, pw]; omega
theorem val_zeros (n : Nat) : val (List.replicate n 0) = 0 := by
  induction n with
  | zero => rfl
  | succ n ih => simp [List.replicate_succ, val, ih]
theorem val_split (xs : List Int) (n : Nat) (h : n ≤ xs.length) : val xs = val (xs.take n) + pw n * val (xs.drop n) := by
  conv => lhs; rw [← List.take_append_drop n xs]
  rw [val_append, List.length_take, Nat.min_eq_left h]
theorem take_succ_getD (xs : List Int) (k : Nat) (h : k < xs.length) : xs.take (k + 1) = xs.take k ++ [xs.getD k 0] := by
  rw [List.take_succ_eq_append_getElem h]; simp [List.getD_eq_getElem?_getD, List.getElem?_eq_getElem h]
theorem drop_getD (xs : List Int) (k : Nat) (h : k < xs.length) : xs.drop k = xs.getD k 0 :: xs.drop (k + 1) := by
  rw [List.drop_eq_getElem_cons h]; simp [List.getD_eq_getElem?_getD, List.getElem?_eq_getElem h]
theorem val_take_succ (xs : List Int) (k : Nat) (h : k < xs.length) : val (xs.take (k + 1)) = val (xs.take k) + pw k * xs.getD k 0 := by
  rw [take_succ_getD xs k h, val_append, List.length_take, Nat.min_eq_left (Nat.le_of_lt h)]; simp [val]
theorem take_set_succ (xs : List Int) (k : Nat) (v : Int) (h : k < xs.length) : (xs.set k v).take (k + 1) = xs.take k ++ [v] := by
  rw [take_succ_getD _ k (by simpa using h)]
  congr 1
  · rw [List.take_set]; exact List.set_eq_of_length_le (by simp; omega)
  · simp [List.getD_eq_getElem?_getD, h]
theorem drop_set_succ (xs : List Int) (k : Nat) (v : Int) : (xs.set k v).drop (k + 1) = xs.drop (k + 1) := by
  rw [List.drop_set_of_lt (by omega)]
def Nm (xs : List Int) : Prop := xs = [] ∨ xs.getD (xs.length - 1) 0 ≠ 0
theorem val_low {xs : List Int} (h : Wd xs) (n : Nm xs) (ne : xs ≠ []) : pw (xs.length - 1) ≤ val xs := by
  have hl : 0 < xs.length := by cases xs with | nil => exact absurd rfl ne | cons => simp
  have e := val_split xs (xs.length - 1) (by omega)
  rw [drop_getD xs _ (by omega), Nat.sub_add_cancel hl, List.drop_length] at e
  rcases n with n | n
  · exact absurd n ne
  · have h1 := (h.get (xs.length - 1)).1
    have h2 := val_nonneg (h.take (xs.length - 1))
    have h3 := Int.mul_le_mul_of_nonneg_left (show 1 ≤ xs.getD (xs.length - 1) 0 by omega) (Int.le_of_lt (pw_pos (xs.length - 1)))
    simp only [val, Int.mul_zero, Int.add_zero] at e
    omega
theorem val_lt_of_length {xs ys : List Int} (h : Wd xs) (k : Wd ys) (n : Nm ys) (hl : xs.length < ys.length) : val xs < val ys := by
  have h1 := val_lt h
  have h2 := val_low k n (by intro e; simp [e] at hl)
  have h3 := pw_mono (show xs.length ≤ ys.length - 1 by omega)
  omega
theorem val_eq_zero {xs : List Int} (h : Wd xs) (n : Nm xs) : val xs = 0 ↔ xs = [] := by
  constructor
  · intro e
    by_cases ne : xs = []
    · exact ne
    · have := val_low h n ne; have := pw_pos (xs.length - 1); omega
  · rintro rfl; rfl
end Tl

namespace Go.Proofs.YtebilgnmnambnaaGreatDoor.L
open Go.RowKit Tl
def nth (xs : List Int) (i : Nat) : Int := xs.getD i 0
theorem nth_bd {xs : List Int} (h : Wd xs) (i : Nat) : 0 ≤ nth xs i ∧ nth xs i < 1073741824 := h.get i
theorem nth_set_same (xs : List Int) (k : Nat) (v : Int) (h : k < xs.length) : nth (xs.set k v) k = v := by simp [nth, List.getD_eq_getElem?_getD, h]
theorem nth_set_other (xs : List Int) (k j : Nat) (v : Int) (h : k ≠ j) : nth (xs.set k v) j = nth xs j := by simp [nth, List.getD_eq_getElem?_getD, h]
theorem nth_drop (xs : List Int) (k j : Nat) : nth (xs.drop k) j = nth xs (k + j) := by simp [nth, List.getD_eq_getElem?_getD]
theorem nth_take (xs : List Int) (k j : Nat) (h : j < k) : nth (xs.take k) j = nth xs j := by simp [nth, List.getD_eq_getElem?_getD, h]
structure Part (X S : List Int) (k : Nat) : Prop where
  len : X.length = S.length
  wd : Wd X
  drop : X.drop k = S.drop k
theorem Part.refl {S : List Int} (h : Wd S) (k : Nat) : Part S S k := ⟨rfl, h, rfl⟩
theorem Part.val {X S : List Int} {k : Nat} (h : Part X S k) (hk : k < S.length) (v : Int) : val ((X.set k v).take (k + 1)) = val (X.take k) + pw k * v := by
  have hl := h.len
  rw [take_set_succ X k v (by omega), val_append, List.length_take, Nat.min_eq_left (by omega)]; simp [Tl.val]
theorem val_at (xs : List Int) (k : Nat) (h : k < xs.length) : val (xs.take (k + 1)) = val (xs.take k) + pw k * nth xs k := val_take_succ xs k h
def Cells (w : World) (b o : Nat) (xs : List Int) : Prop := ∀ i, i < xs.length → w.cell? ⟨b, o + i, none⟩ = some (.int .i64 (nth xs i))
def Free (w : World) (b o n : Nat) : Prop := ∀ i, i < n → w.frozen? ⟨b, o + i, none⟩ = false
structure Wr (b o n : Nat) (w w' : World) : Prop where
  os : w'.os = w.os
  tape : w'.tape = w.tape
  output : w'.output = w.output
  size : w.heap.size ≤ w'.heap.size
  block : ∀ k, k < w.heap.size → k ≠ b → w'.heap[k]? = w.heap[k]?
  cell : ∀ i, (i < o ∨ o + n ≤ i) → w'.cell? ⟨b, i, none⟩ = w.cell? ⟨b, i, none⟩
  froz : ∀ i, w'.frozen? ⟨b, i, none⟩ = w.frozen? ⟨b, i, none⟩
  own : ∀ c t f, w.heap[b]? = some (.cells c t f) → ∃ c', w'.heap[b]? = some (.cells c' t f) ∧ c'.size = c.size
theorem Wr.refl (b o n : Nat) (w : World) : Wr b o n w w := ⟨rfl, rfl, rfl, Nat.le_refl _, fun _ _ _ => rfl, fun _ _ => rfl, fun _ => rfl, fun c _ _ h => ⟨c, h, rfl⟩⟩
theorem Wr.trans {b o n : Nat} {x y z : World} (h : Wr b o n x y) (k : Wr b o n y z) : Wr b o n x z :=
  ⟨k.os.trans h.os, k.tape.trans h.tape, k.output.trans h.output, Nat.le_trans h.size k.size, fun i hi hb => (k.block i (Nat.lt_of_lt_of_le hi h.size) hb).trans (h.block i hi hb),
    fun i hi => (k.cell i hi).trans (h.cell i hi), fun i => (k.froz i).trans (h.froz i), fun c t f e => by obtain ⟨c1, e1, s1⟩ := h.own c t f e; obtain ⟨c2, e2, s2⟩ := k.own c1 t f e1; exact ⟨c2, e2, s2.trans s1⟩⟩
theorem Wr.drewN {b o n : Nat} {x y : World} (h : Wr b o n x y) (m : Nat) : Wr b o n x (y.drewN m) := ⟨h.os, h.tape, h.output, h.size, h.block, h.cell, h.froz, h.own⟩
theorem Wr.setCell {b o n : Nat} {x y : World} (h : Wr b o n x y) (i : Nat) (hi : o ≤ i ∧ i < o + n) (v : Value) : Wr b o n x (y.setCell ⟨b, i, none⟩ v) :=
  h.trans ⟨rfl, rfl, rfl, by simp [World.setCell], fun k _ hb => Below.heap_setCell _ _ _ _ hb, fun j hj => World.cell?_setCell_other _ _ _ _ (by simp), fun j => World.frozen?_setCell _ _ _ _, fun c t f e => ⟨c.setIfInBounds i v, by simp [World.setCell, Array.getElem?_modify, e], by simp⟩⟩
theorem Wr.below {b o n : Nat} {x y : World} (h : Wr b o n x y) {B : Nat} (hB : B ≤ b) (hB' : B ≤ x.heap.size) : Below B x y :=
  ⟨h.os, h.tape, h.output, h.size, fun k hk => h.block k (by omega) (by omega)⟩
theorem lt_of_cell {w : World} {b i : Nat} {v : Value} (h : w.cell? ⟨b, i, none⟩ = some v) : b < w.heap.size := by
  by_cases hb : b < w.heap.size
  · exact hb
  · simp [World.cell?, Array.getElem?_eq_none (Nat.le_of_not_lt hb)] at h
theorem Cells.lt {w : World} {b o : Nat} {xs : List Int} (h : Cells w b o xs) (ne : 0 < xs.length) : b < w.heap.size := lt_of_cell (h 0 ne)
theorem Cells.at {w : World} {b o : Nat} {xs : List Int} (h : Cells w b o xs) {i : Nat} (hi : i < xs.length) : w.cell? ⟨b, o + i, none⟩ = some (.int .i64 (nth xs i)) := h i hi
theorem Cells.below {w w' : World} {B b o : Nat} {xs : List Int} (h : Cells w b o xs) (k : Below B w w') (hb : b < B) : Cells w' b o xs := fun i hi => (k.cell (p := ⟨b, o + i, none⟩) hb).trans (h i hi)
theorem Cells.grow {w w' : World} {b o : Nat} {xs : List Int} (h : Cells w b o xs) (k : Below w.heap.size w w') : Cells w' b o xs := fun i hi => (k.cell (p := ⟨b, o + i, none⟩) (lt_of_cell (h i hi))).trans (h i hi)
theorem Cells.other {w w' : World} {b o b' o' n' : Nat} {xs : List Int} (h : Cells w b o xs) (k : Wr b' o' n' w w') (hb : b ≠ b') : Cells w' b o xs := fun i hi =>
  (World.cell?_of_block (a := ⟨b, o + i, none⟩) (k.block b (lt_of_cell (h i hi)) hb)).trans (h i hi)
theorem Cells.set {w : World} {b o : Nat} {xs : List Int} (h : Cells w b o xs) (k : Nat) (hk : k < xs.length) (v : Int) : Cells (w.setCell ⟨b, o + k, none⟩ (.int .i64 v)) b o (xs.set k v) := by
  intro i hi
  rw [List.length_set] at hi
  by_cases e : k = i
  · subst e; rw [nth_set_same _ _ _ hk]; exact World.cell?_setCell_same _ _ _ (h k hk)
  · rw [nth_set_other _ _ _ _ e, World.cell?_setCell_other _ _ _ _ (by simp)]; exact h i hi
theorem Cells.drop {w : World} {b o : Nat} {xs : List Int} (h : Cells w b o xs) (k : Nat) : Cells w b (o + k) (xs.drop k) := by
  intro i hi
  rw [List.length_drop] at hi
  rw [nth_drop, Nat.add_assoc]; exact h (k + i) (by omega)
theorem Cells.take {w : World} {b o : Nat} {xs : List Int} (h : Cells w b o xs) (k : Nat) : Cells w b o (xs.take k) := by
  intro i hi
  rw [List.length_take] at hi
  rw [nth_take _ _ _ (by omega)]; exact h i (by omega)
def Own (w : World) (b : Nat) : Prop := ∃ c t, w.heap[b]? = some (.cells c t (0, 0))
theorem Own.free {w : World} {b : Nat} (h : Own w b) (o n : Nat) : Free w b o n := by
  obtain ⟨c, t, e⟩ := h
  intro i _
  simp [World.frozen?, e]
theorem Own.lt {w : World} {b : Nat} (h : Own w b) : b < w.heap.size := by
  obtain ⟨c, t, e⟩ := h
  by_cases hb : b < w.heap.size
  · exact hb
  · rw [Array.getElem?_eq_none (Nat.le_of_not_lt hb)] at e; simp at e
theorem Own.wr {w w' : World} {b b' o n : Nat} (h : Own w b) (k : Wr b' o n w w') : Own w' b := by
  have hb := h.lt
  obtain ⟨c, t, e⟩ := h
  by_cases e' : b = b'
  · subst e'; obtain ⟨c', e1, _⟩ := k.own c t _ e; exact ⟨c', t, e1⟩
  · exact ⟨c, t, (k.block b hb e').trans e⟩
theorem Own.grow {w w' : World} {b : Nat} (h : Own w b) (k : Below w.heap.size w w') : Own w' b := by
  have hb := h.lt
  obtain ⟨c, t, e⟩ := h
  exact ⟨c, t, (k.block b hb).trans e⟩
def Rd (w : World) (v : Value) (xs : List Int) : Prop :=
  Wd xs ∧ ∃ a cap, v = .slice a xs.length cap ∧ xs.length ≤ cap ∧ cap ≤ maxLen ∧ (0 < xs.length → ∃ b o, a = some ⟨b, o, none⟩ ∧ Cells w b o xs)
theorem Rd.grow {w w' : World} {v : Value} {xs : List Int} (h : Rd w v xs) (k : Below w.heap.size w w') : Rd w' v xs := by
  obtain ⟨h1, a, cap, h2, h3, h4, h5⟩ := h
  exact ⟨h1, a, cap, h2, h3, h4, fun l => by obtain ⟨b, o, e, c⟩ := h5 l; exact ⟨b, o, e, c.grow k⟩⟩
end Go.Proofs.YtebilgnmnambnaaGreatDoor.L

namespace Go.Proofs.YtebilgnmnambnaaGreatDoor.Mo
open Go.RowKit Go.Lib Dc
theorem empty_iff (s : ByteArray) : s.toList.isEmpty = decide (s.size = 0) := by
  rw [ByteArray.toList_eq, Bool.eq_iff_iff, List.isEmpty_iff, decide_eq_true_iff, ← List.length_eq_zero_iff, Array.length_toList]
  rfl
set_option maxHeartbeats 1600000 in
set_option maxRecDepth 100000 in
theorem CutSign_any (s : ByteArray) (w : World) (hs : s.size ≤ 9223372036854775807) :
    Calls Tryz.prog 108 #[.string s] w fun e w' => e = .returned (.tuple #[.bool (neg s), .string (rest s)]) ∧ Below w.heap.size w w' := by
  have he := empty_iff s
  by_cases h0 : s.size = 0
  · have hn : neg s = false := by unfold neg; rw [bt_out (by omega)]; decide
    have hr : rest s = s := by unfold rest; rw [hn]; rfl
    rw [hn, hr]
    rw [h0] at he
    simp at he
    go_enter Tryz.func108, Tryz.ntmps108
    go_wp2
    go_ret2
    exact ⟨rfl, Below.refl _ _⟩
  · have hp : 0 < s.size := by omega
    have he' : s.toList.isEmpty = false := by rw [he]; simp [h0]
    clear he
    have hb := bt_in hp
    rcases hn : neg s with _ | _
    · have hc : (((s[0].toNat : Int)) == 45) = false := by
        rw [beq_eq_false_iff_ne]
        have : ¬ bt s 0 = 45 := by simpa [neg] using hn
        rw [hb] at this
        omega
      have hr : rest s = s := by unfold rest; rw [hn]; rfl
      rw [hr]
      clear hb hn hr
      go_enter Tryz.func108, Tryz.ntmps108
      go_wp2
      go_ret2
      exact ⟨rfl, Below.refl _ _⟩
    · have hc : (((s[0].toNat : Int)) == 45) = true := by
        rw [beq_iff_eq]
        have : bt s 0 = 45 := by simpa [neg] using hn
        rw [hb] at this
        omega
      have hr : rest s = s.extract 1 s.size := by unfold rest; rw [hn]; rfl
      rw [hr]
      clear hb hn hr
      have h1 : (1 : Int) ≤ (s.size : Int) := by omega
      go_enter Tryz.func108, Tryz.ntmps108
      go_wp2_with fail
      go_region
      all_goals
        go_wp2
        go_ret2
        exact ⟨rfl, (by repeat (first | exact Below.refl _ _ | refine L.below_drewN ?_ _ | refine Below.drew ?_))⟩
end Go.Proofs.YtebilgnmnambnaaGreatDoor.Mo
