import Derived.Test.YtfalncbcomlelaaGreatDoorDp
import Derived.Test.YtfalncbcomlelaaGreatDoorSmall
import Derived.Laws.AppendOwn
import Derived.Laws.OwnMore
import Derived.OwnWalk
namespace Go.Proofs.YtfalncbcomlelaaGreatDoor
open Go.RowKit Tn

theorem infoW : ∃ i, Tryz.prog.info? 95 = some i ∧ i.zero = some (.int .u64 0) ∧ i.size = 1 ∧ i.bytes = 8 := by
  have h : ((Tryz.prog.info? 95).map fun i => (i.zero, i.size, i.bytes)) = some (some (.int .u64 0), 1, 8) := by kernel_rfl
  obtain ⟨i, h1, h2⟩ := Option.map_eq_some_iff.1 h
  simp only [Prod.mk.injEq] at h2
  exact ⟨i, h1, h2.1, h2.2.1, h2.2.2⟩
/-- append(l, y) of words, l a row of the call's own. -/
theorem wpList_pushw {w : World} {ops : Array Oper} {rest : List Oper} {o : Oper} {a : Act} {Q : Exit → Act → World → Prop} (hgd : o.guard = none) (s x : Operand)
    (ho : o.op = .call { callee := .builtin .append, args := #[s, x], argTypes := #[54, 54] })
    (g0 cap0 : Nat) (Y : List Int) (hs : a.eval s = .slice (some ⟨g0, 0, none⟩) Y.length cap0) (base : Nat) (hown : w.ownsRow base 95 1 (.slice (some ⟨g0, 0, none⟩) Y.length cap0) Y.length (Y.map (Value.int .u64))) (hL : Y.length ≤ 1099511627776)
    (ad c : Nat) (y : Int) (hx : a.eval x = .slice (some ⟨ad, 0, none⟩) 1 c) (hn : w.cell? ⟨ad, 0, none⟩ = some (.int .u64 y)) (hbase : base ≤ w.heap.size)
    (h : ∀ g cap w', w'.ownsRow base 95 1 (.slice (some ⟨g, 0, none⟩) (Y ++ [y]).length cap) (Y ++ [y]).length ((Y ++ [y]).map (Value.int .u64)) → Below base w w' → wpList Tryz.prog ops Q rest (a.put o.dst (.slice (some ⟨g, 0, none⟩) (Y ++ [y]).length cap)) w') : wpList Tryz.prog ops Q (o :: rest) a w := by
  obtain ⟨i, hi, hz0, hz1, hz2⟩ := infoW
  refine wpList_append_own w hgd s x 54 ho base 95 i (.int .u64 0) 1 8 Tryz.underlying54 hi hz0 hz1 hz2 rfl (by decide) _ Y.length _ hs hown ⟨ad, 0, none⟩ 1 c [.int .u64 y] hx rfl ?_ (by intro u hu; simp at hu; subst hu; rfl) (by unfold maxLen; omega) (by omega) hbase ?_
  · intro j u hj
    match j, hj with
    | 0, hj => simp at hj; subst hj; simpa [Addr.add] using hn
  · intro v' w' hown' hgr hnil
    have hb : Below base w w' := by
      refine ⟨hgr.os, hgr.tape, hgr.output, hgr.size, fun k hk => hgr.block k (by omega) ?_⟩
      obtain ⟨_, hr⟩ := hown
      rcases hr with ⟨e, _⟩ | ⟨g, cap, cur, e, hb, _⟩
      · cases e
      · simp at e; simp [Value.ownBlock]; omega
    have hown2 : w'.ownsRow base 95 1 v' (Y ++ [y]).length ((Y ++ [y]).map (Value.int .u64)) := by simpa using hown'
    have hown3 := hown2
    obtain ⟨_, hr⟩ := hown2
    rcases hr with ⟨rfl, h0⟩ | ⟨g, cap, cur, rfl, _⟩
    · simp at h0
    · exact h g cap w' hown3 hb
theorem ownw_at {w : World} {base : Nat} {g cap : Nat} {Y : List Int} (h : w.ownsRow base 95 1 (.slice (some ⟨g, 0, none⟩) Y.length cap) Y.length (Y.map (Value.int .u64))) (k : Nat) (hk : k < Y.length) : w.cell? ⟨g, k, none⟩ = some (.int .u64 (nth Y k)) := by
  rw [h.cellAt k (by omega)]
  simp [nth, List.getD_eq_getElem?_getD, List.getElem?_eq_getElem hk]
theorem ownw_set {w : World} {base : Nat} {g cap : Nat} {Y : List Int} (h : w.ownsRow base 95 1 (.slice (some ⟨g, 0, none⟩) Y.length cap) Y.length (Y.map (Value.int .u64))) (k : Nat) (v : Int) : (w.setCell ⟨g, k, none⟩ (.int .u64 v)).ownsRow base 95 1 (.slice (some ⟨g, 0, none⟩) Y.length cap) Y.length ((Y.set k v).map (Value.int .u64)) := by
  have := (h.stored k (.int .u64 v)).1
  rwa [← List.map_set] at this
theorem ownw_lt {w : World} {base : Nat} {g cap n : Nat} {l : List Value} (h : w.ownsRow base 95 1 (.slice (some ⟨g, 0, none⟩) n cap) n l) : base ≤ g ∧ g < w.heap.size := h.lt g rfl
theorem ownw_cap {w : World} {base : Nat} {g cap n : Nat} {l : List Value} (h : w.ownsRow base 95 1 (.slice (some ⟨g, 0, none⟩) n cap) n l) : n ≤ cap ∧ cap ≤ 9223372036854775807 := by
  obtain ⟨_, hr⟩ := h
  rcases hr with ⟨e, _⟩ | ⟨g', cap', cur, e, _, _, h4, h5, _⟩
  · cases e
  · simp at e
    obtain ⟨rfl, rfl⟩ := e
    exact ⟨h4, by unfold maxLen at h5; omega⟩
/-- One word more of a row that is multiplied. -/
theorem mul_more {Z X : List Int} {k : Nat} {U C G lo hi : Int} (P : Part Z X k) (hk : k < X.length) (hv : val (Z.take k) + pw k * C = val (X.take k) * U + G) (l0 : 0 ≤ lo) (l1 : lo < 18446744073709551616) (he : lo + 18446744073709551616 * hi = nth X k * U + C) :
    Part (Z.set k lo) X (k + 1) ∧ val ((Z.set k lo).take (k + 1)) + pw (k + 1) * hi = val (X.take (k + 1)) * U + G := by
  refine ⟨P.step l0 l1, ?_⟩
  rw [P.val hk lo, val_at X k hk]
  simp only [pw]
  generalize pw k = p at *
  generalize val (Z.take k) = a at *
  generalize val (X.take k) = b at *
  generalize nth X k = x at *
  have : p * (lo + 18446744073709551616 * hi) = p * (x * U + C) := by rw [he]
  grind
end Go.Proofs.YtfalncbcomlelaaGreatDoor
