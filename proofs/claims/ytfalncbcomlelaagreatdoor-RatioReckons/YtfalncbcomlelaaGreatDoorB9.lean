import Derived.Test.YtfalncbcomlelaaGreatDoorB7
import Derived.Laws.AppendOwn
namespace Go.Proofs.YtfalncbcomlelaaGreatDoor.L
open Go.RowKit Tl

/-- append(l, y), l nil or a row of the call's own. -/
theorem wpList_push {w : World} {ops : Array Oper} {rest : List Oper} {o : Oper} {a : Act} {Q : Exit → Act → World → Prop} (hgd : o.guard = none) (s x : Operand)
    (ho : o.op = .call { callee := .builtin .append, args := #[s, x], argTypes := #[43, 43] })
    (v : Value) (Y : List Int) (hs : a.eval s = v) (base : Nat) (hown : w.ownsRow base 3 1 v Y.length (Y.map (Value.int .i64))) (hL : Y.length ≤ 1099511627776)
    (ad c : Nat) (y : Int) (hx : a.eval x = .slice (some ⟨ad, 0, none⟩) 1 c) (hn : w.cell? ⟨ad, 0, none⟩ = some (.int .i64 y)) (hbase : base ≤ w.heap.size)
    (h : ∀ v' w', w'.ownsRow base 3 1 v' (Y ++ [y]).length ((Y ++ [y]).map (Value.int .i64)) → Below base w w' → wpList Tryz.prog ops Q rest (a.put o.dst v') w') : wpList Tryz.prog ops Q (o :: rest) a w := by
  obtain ⟨i, hi, hz0, hz1, hz2⟩ := info_parts Tryz.infoU
  refine wpList_append_own w hgd s x 43 ho base 3 i (.int .i64 0) 1 8 Tryz.underlying43 hi hz0 hz1 hz2 rfl (by decide) v Y.length _ hs hown ⟨ad, 0, none⟩ 1 c [.int .i64 y] hx rfl ?_ (by intro u hu; simp at hu; subst hu; rfl) (by unfold maxLen; omega) (by omega) hbase ?_
  · intro j u hj
    match j, hj with
    | 0, hj => simp at hj; subst hj; simpa [Addr.add] using hn
  · intro v' w' hown' hgr _
    refine h v' w' (by simpa using hown') ⟨hgr.os, hgr.tape, hgr.output, hgr.size, fun k hk => hgr.block k (by omega) ?_⟩
    obtain ⟨_, hr⟩ := hown
    rcases hr with ⟨rfl, _⟩ | ⟨g, cap, cur, rfl, hb, _⟩
    · simp [Value.ownBlock]
    · simp [Value.ownBlock]; omega
end Go.Proofs.YtfalncbcomlelaaGreatDoor.L
