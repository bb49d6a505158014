import Derived.Test.YtfalncbcomlelaaGreatDoorTx1
import Derived.Test.YtfalncbcomlelaaGreatDoorB10
namespace Go.Proofs.YtfalncbcomlelaaGreatDoor.L
open Go.RowKit Tl

theorem infoB : ∃ i, Tryz.prog.info? 5 = some i ∧ i.zero = some (.int .u8 0) ∧ i.size = 1 ∧ i.bytes = 1 := by
  have h : ((Tryz.prog.info? 5).map fun i => (i.zero, i.size, i.bytes)) = some (some (.int .u8 0), 1, 1) := by kernel_rfl
  obtain ⟨i, h1, h2⟩ := Option.map_eq_some_iff.1 h
  simp only [Prod.mk.injEq] at h2
  exact ⟨i, h1, h2.1, h2.2.1, h2.2.2⟩
/-- append(l, y) of bytes, l nil or a row of the call's own. -/
theorem wpList_pushb {w : World} {ops : Array Oper} {rest : List Oper} {o : Oper} {a : Act} {Q : Exit → Act → World → Prop} (hgd : o.guard = none) (s x : Operand)
    (ho : o.op = .call { callee := .builtin .append, args := #[s, x], argTypes := #[140, 140] })
    (v : Value) (Y : List Int) (hs : a.eval s = v) (base : Nat) (hown : w.ownsRow base 5 1 v Y.length (Y.map (Value.int .u8))) (hL : Y.length ≤ 70368744177664)
    (ad c : Nat) (y : Int) (hx : a.eval x = .slice (some ⟨ad, 0, none⟩) 1 c) (hn : w.cell? ⟨ad, 0, none⟩ = some (.int .u8 y)) (hbase : base ≤ w.heap.size)
    (h : ∀ v' w', w'.ownsRow base 5 1 v' (Y ++ [y]).length ((Y ++ [y]).map (Value.int .u8)) → Below base w w' → wpList Tryz.prog ops Q rest (a.put o.dst v') w') : wpList Tryz.prog ops Q (o :: rest) a w := by
  obtain ⟨i, hi, hz0, hz1, hz2⟩ := infoB
  refine wpList_append_own w hgd s x 140 ho base 5 i (.int .u8 0) 1 1 Tryz.underlying140 hi hz0 hz1 hz2 rfl (by decide) v Y.length _ hs hown ⟨ad, 0, none⟩ 1 c [.int .u8 y] hx rfl ?_ (by intro u hu; simp at hu; subst hu; rfl) (by unfold maxLen; omega) (by omega) hbase ?_
  · intro j u hj
    match j, hj with
    | 0, hj => simp at hj; subst hj; simpa [Addr.add] using hn
  · intro v' w' hown' hgr _
    refine h v' w' (by simpa using hown') ⟨hgr.os, hgr.tape, hgr.output, hgr.size, fun k hk => hgr.block k (by omega) ?_⟩
    obtain ⟨_, hr⟩ := hown
    rcases hr with ⟨rfl, _⟩ | ⟨g, cap, cur, rfl, hb, _⟩
    · simp [Value.ownBlock]
    · simp [Value.ownBlock]; omega
/-- append(l, y), l nil or a row of the call's own: what lies in other rows stays. -/
theorem wpList_pushk {w : World} {ops : Array Oper} {rest : List Oper} {o : Oper} {a : Act} {Q : Exit → Act → World → Prop} (hgd : o.guard = none) (s x : Operand)
    (ho : o.op = .call { callee := .builtin .append, args := #[s, x], argTypes := #[43, 43] })
    (v : Value) (Y : List Int) (hs : a.eval s = v) (base L : Nat) (hown : w.ownsRow base 3 1 v Y.length (Y.map (Value.int .i64))) (hlow : ∀ g, v.ownBlock = some g → g < L) (hL : Y.length ≤ 1099511627776)
    (ad c : Nat) (y : Int) (hx : a.eval x = .slice (some ⟨ad, 0, none⟩) 1 c) (hn : w.cell? ⟨ad, 0, none⟩ = some (.int .i64 y)) (hbase : base ≤ w.heap.size)
    (h : ∀ v' w', w'.ownsRow base 3 1 v' (Y ++ [y]).length ((Y ++ [y]).map (Value.int .i64)) → Below base w w' → (∀ k, L ≤ k → k < w.heap.size → w'.heap[k]? = w.heap[k]?) → wpList Tryz.prog ops Q rest (a.put o.dst v') w') : wpList Tryz.prog ops Q (o :: rest) a w := by
  obtain ⟨i, hi, hz0, hz1, hz2⟩ := info_parts Tryz.infoU
  refine wpList_append_own w hgd s x 43 ho base 3 i (.int .i64 0) 1 8 Tryz.underlying43 hi hz0 hz1 hz2 rfl (by decide) v Y.length _ hs hown ⟨ad, 0, none⟩ 1 c [.int .i64 y] hx rfl ?_ (by intro u hu; simp at hu; subst hu; rfl) (by unfold maxLen; omega) (by omega) hbase ?_
  · intro j u hj
    match j, hj with
    | 0, hj => simp at hj; subst hj; simpa [Addr.add] using hn
  · intro v' w' hown' hgr _
    refine h v' w' (by simpa using hown') ⟨hgr.os, hgr.tape, hgr.output, hgr.size, fun k hk => hgr.block k (by omega) ?_⟩ fun k hk hk' => hgr.block k hk' ?_
    · obtain ⟨_, hr⟩ := hown
      rcases hr with ⟨rfl, _⟩ | ⟨g, cap, cur, rfl, hb, _⟩
      · simp [Value.ownBlock]
      · simp [Value.ownBlock]; omega
    · intro e
      have := hlow k e.symm
      omega
def slen : Value → Nat | .slice _ n _ => n | _ => 0
theorem own_slen {w : World} {base n : Nat} {e : TypeId} {v : Value} {xs : List Value} (h : w.ownsRow base e 1 v n xs) : slen v = n := by
  obtain ⟨_, hr⟩ := h
  rcases hr with ⟨rfl, h0⟩ | ⟨g', cap, cur, rfl, _⟩
  · rw [h0]; rfl
  · rfl
theorem own_low {w : World} {base n : Nat} {e : TypeId} {v : Value} {xs : List Value} (h : w.ownsRow base e 1 v n xs) (g : Nat) (hg : v.ownBlock = some g) : g < w.heap.size := by
  obtain ⟨_, hr⟩ := h
  rcases hr with ⟨rfl, _⟩ | ⟨g', cap, cur, rfl, hb, e3, _⟩
  · simp [Value.ownBlock] at hg
  · simp [Value.ownBlock] at hg
    subst hg
    exact Own.lt ⟨cur, _, e3⟩
/-- What a row of bytes of the call's own holds. -/
theorem own_bytes {w : World} {base : Nat} {e : TypeId} {v : Value} {Y : List Int} (h : w.ownsRow base e 1 v Y.length (Y.map (Value.int .u8))) (ne : 0 < Y.length) :
    ∃ g cap, v = .slice (some ⟨g, 0, none⟩) Y.length cap ∧ base ≤ g ∧ g < w.heap.size ∧ Y.length ≤ cap ∧ cap ≤ 9223372036854775807 ∧ ∀ i, i < Y.length → w.cell? ⟨g, i, none⟩ = some (.int .u8 (nth Y i)) := by
  obtain ⟨_, h2⟩ := h
  rcases h2 with ⟨rfl, h2⟩ | ⟨g, cap, cur, rfl, hb, e3, e4, e5, e6, e7⟩
  · omega
  · refine ⟨g, cap, rfl, hb, Own.lt ⟨cur, _, e3⟩, e4, by unfold maxLen at e5; omega, fun i hi => ?_⟩
    rw [Nat.mul_one] at e7
    have h7 := congrArg (fun l : List Value => l[i]?) e7
    simp only [List.getElem?_take, hi, if_true, List.getElem?_map] at h7
    simp only [World.cell?, e3, Option.isSome_none, Bool.false_eq_true, if_false]
    rw [Array.getElem?_toList] at h7
    rw [h7]
    simp [nth, List.getD_eq_getElem?_getD, List.getElem?_eq_getElem hi]
/-- And one of ints. -/
theorem own_ints {w : World} {base : Nat} {e : TypeId} {v : Value} {Y : List Int} (h : w.ownsRow base e 1 v Y.length (Y.map (Value.int .i64))) (ne : 0 < Y.length) :
    ∃ g cap, v = .slice (some ⟨g, 0, none⟩) Y.length cap ∧ base ≤ g ∧ g < w.heap.size ∧ Y.length ≤ cap ∧ cap ≤ 9223372036854775807 ∧ ∀ i, i < Y.length → w.cell? ⟨g, i, none⟩ = some (.int .i64 (nth Y i)) := by
  obtain ⟨_, h2⟩ := h
  rcases h2 with ⟨rfl, h2⟩ | ⟨g, cap, cur, rfl, hb, e3, e4, e5, e6, e7⟩
  · omega
  · refine ⟨g, cap, rfl, hb, Own.lt ⟨cur, _, e3⟩, e4, by unfold maxLen at e5; omega, fun i hi => ?_⟩
    rw [Nat.mul_one] at e7
    have h7 := congrArg (fun l : List Value => l[i]?) e7
    simp only [List.getElem?_take, hi, if_true, List.getElem?_map] at h7
    simp only [World.cell?, e3, Option.isSome_none, Bool.false_eq_true, if_false]
    rw [Array.getElem?_toList] at h7
    rw [h7]
    simp [nth, List.getD_eq_getElem?_getD, List.getElem?_eq_getElem hi]

/-- The parts of nine digits of V, k of them, and what is left. -/
def Prt (V : Nat) (ps xs : List Int) : Prop := (∀ i, i < ps.length → nth ps i = ((V / 10 ^ (9 * i) % 1000000000 : Nat) : Int)) ∧ val xs = ((V / 10 ^ (9 * ps.length) : Nat) : Int)
theorem Prt.next {V : Nat} {ps xs zs : List Int} {r : Int} (h : Prt V ps xs) (hv : val zs * 1000000000 + r = val xs) (r0 : 0 ≤ r) (r1 : r < 1000000000) : Prt V (ps ++ [r]) zs := by
  obtain ⟨h1, h2⟩ := h
  have e : (V / 10 ^ (9 * (ps ++ [r]).length) : Nat) = V / 10 ^ (9 * ps.length) / 1000000000 := by
    rw [List.length_append, List.length_singleton, Nat.mul_add, Nat.pow_add, ← Nat.div_div_eq_div_mul]
  generalize hA : V / 10 ^ (9 * ps.length) = A at *
  refine ⟨fun i hi => ?_, ?_⟩
  · rw [List.length_append, List.length_singleton] at hi
    by_cases c : i < ps.length
    · have : nth (ps ++ [r]) i = nth ps i := by simp [nth, List.getD_eq_getElem?_getD, List.getElem?_append_left c]
      rw [this]; exact h1 i c
    · obtain rfl : i = ps.length := by omega
      have : nth (ps ++ [r]) ps.length = r := by simp [nth, List.getD_eq_getElem?_getD]
      rw [this, hA]
      omega
  · rw [e]
    omega
theorem Prt.done {V : Nat} {ps : List Int} (h : Prt V ps []) : V < 10 ^ (9 * ps.length) := by
  have h2 := h.2
  have p : 0 < 10 ^ (9 * ps.length) := Nat.pow_pos (by decide)
  generalize 10 ^ (9 * ps.length) = t at *
  have h3 : V / t = 0 := by simp [val] at h2; omega
  rcases Nat.div_eq_zero_iff.1 h3 with h3 | h3 <;> omega
theorem val_nil0 {xs : List Int} (h : ¬ 0 < xs.length) : xs = [] := List.eq_nil_of_length_eq_zero (by omega)
end Go.Proofs.YtfalncbcomlelaaGreatDoor.L
