import Derived.Test.YtjgljcifnklmeaaFr4
import Derived.Deep.RegionHeld3
namespace Go.Proofs.Ytjgljcifnklmeaa
open Go.RowKit Tn

set_option maxRecDepth 100000 in
set_option maxHeartbeats 1600000 in
theorem Len64_one (w : World) : Calls Try.prog 97 #[.int .u64 1] w fun e w' => e = .returned (.int .i64 1) ∧ w' = w := by
  go_enter Try.func97, Try.ntmps97
  go_wp2
  go_ret
  exact ⟨by kernel_rfl, rfl⟩
set_option maxRecDepth 100000 in
theorem LeadingZeros64_one (w : World) : Calls Try.prog 104 #[.int .u64 1] w fun e w' => e = .returned (.int .i64 63) ∧ w' = w := by
  go_enter Try.func104, Try.ntmps104
  go_wp2_with (first
    | (go_at_call 97; refine (Len64_one _).mono ?_; rintro e w' ⟨rfl, rfl⟩)
    | fail)
  go_ret
  exact ⟨rfl, rfl⟩
theorem blk_set {w : World} {n i : Nat} {c : Array Value} {t : TypeId} {v : Value} (h : Blk w n c t) : Blk (w.setCell ⟨n, i, none⟩ v) n (c.setIfInBounds i v) t := by
  have h' : w.heap[n]? = some (.cells c t (0, 0)) := h
  show (w.setCell ⟨n, i, none⟩ v).heap[n]? = _
  simp [World.setCell, Array.getElem?_modify, h']
theorem blk_set_other {w : World} {n m i : Nat} {c : Array Value} {t : TypeId} {v : Value} (h : Blk w n c t) (hn : n ≠ m) : Blk (w.setCell ⟨m, i, none⟩ v) n c t := h.wr ((Wr.refl m i 1 w).setCell i (by omega) v) hn
theorem bel_set {w W : World} {m i : Nat} {v : Value} (h : Below w.heap.size w W) (hm : w.heap.size ≤ m) : Below w.heap.size w (W.setCell ⟨m, i, none⟩ v) := h.setCell (p := ⟨m, i, none⟩) hm v
/-- A number of float's own. -/
abbrev nmb (k : Int) (g : Bool) (h l e : Int) (m : Bool) (f : Int) : Value := .agg #[.int .i64 k, .bool g, .int .u64 h, .int .u64 l, .int .i64 e, .bool m, .int .i64 f]
set_option maxRecDepth 100000 in
set_option maxHeartbeats 1600000 in
theorem raised_one (x1 x2 E : Int) (hx1 : IntKind.i64.wrap (E - 64) = x1) (hx2 : IntKind.i64.wrap (x1 - 63) = x2) (w : World) :
    Calls Try.prog 80 #[.agg #[.int .i64 2, .bool false, .int .u64 0, .int .u64 1, .int .i64 E, .bool false, .int .i64 0]] w fun e w' => e = .returned (.agg #[.int .i64 2, .bool false, .int .u64 9223372036854775808, .int .u64 0, .int .i64 x2, .bool false, .int .i64 0]) ∧ Below w.heap.size w w' := by
  go_enter Try.func80, Try.ntmps80
  go_wp2_with (first
    | (go_at_call 104; refine (LeadingZeros64_one _).mono ?_; rintro e w' ⟨rfl, rfl⟩)
    | fail)
  generalize hW : (w.alloc (.cells #[.int .i64 2, .bool false, .int .u64 1, .int .u64 0, .int .i64 x1, .bool false, .int .i64 0] 85)).alloc (.cells #[.int .i64 0, .bool false, .int .u64 0, .int .u64 0, .int .i64 0, .bool false, .int .i64 0] 85) = W
  have K1 : Blk W w.heap.size #[.int .i64 2, .bool false, .int .u64 1, .int .u64 0, .int .i64 x1, .bool false, .int .i64 0] 85 := by rw [← hW]; exact (Blk.new w _ _).alloc _
  have K2 : Blk W (w.heap.size + 1) #[.int .i64 0, .bool false, .int .u64 0, .int .u64 0, .int .i64 0, .bool false, .int .i64 0] 85 := by rw [← hW]; have := Blk.new (w.alloc (.cells #[.int .i64 2, .bool false, .int .u64 1, .int .u64 0, .int .i64 x1, .bool false, .int .i64 0] 85)) #[.int .i64 0, .bool false, .int .u64 0, .int .u64 0, .int .i64 0, .bool false, .int .i64 0] 85; simpa using this
  have pr : Below w.heap.size w W := by rw [← hW]; exact ((Below.refl _ _).alloc (Nat.le_refl _) _).alloc (by simp) _
  clear hW
  have c2 : W.cell? ⟨w.heap.size, 2, none⟩ = some (.int .u64 1) := K1.at 2
  have c3 : W.cell? ⟨w.heap.size, 3, none⟩ = some (.int .u64 0) := K1.at 3
  have c4 : W.cell? ⟨w.heap.size, 4, none⟩ = some (.int .i64 x1) := K1.at 4
  have f2 := K1.free 2
  have f3 := K1.free 3
  have f4 := K1.free 4
  have o1 : bits .or .u64 9223372036854775808 0 = 9223372036854775808 := by decide
  go_region
  have J1 : Blk (((W.setCell ⟨w.heap.size, 2, none⟩ (.int .u64 9223372036854775808)).setCell ⟨w.heap.size, 3, none⟩ (.int .u64 0)).setCell ⟨w.heap.size, 4, none⟩ (.int .i64 x2)).drew w.heap.size #[.int .i64 2, .bool false, .int .u64 9223372036854775808, .int .u64 0, .int .i64 x2, .bool false, .int .i64 0] 85 := blk_set (blk_set (blk_set K1))
  have J2 : Blk (((W.setCell ⟨w.heap.size, 2, none⟩ (.int .u64 9223372036854775808)).setCell ⟨w.heap.size, 3, none⟩ (.int .u64 0)).setCell ⟨w.heap.size, 4, none⟩ (.int .i64 x2)).drew (w.heap.size + 1) #[.int .i64 0, .bool false, .int .u64 0, .int .u64 0, .int .i64 0, .bool false, .int .i64 0] 85 := blk_set_other (blk_set_other (blk_set_other K2 (by omega)) (by omega)) (by omega)
  have pr2 : Below w.heap.size w (((W.setCell ⟨w.heap.size, 2, none⟩ (.int .u64 9223372036854775808)).setCell ⟨w.heap.size, 3, none⟩ (.int .u64 0)).setCell ⟨w.heap.size, 4, none⟩ (.int .i64 x2)).drew := (bel_set (bel_set (bel_set pr (Nat.le_refl _)) (Nat.le_refl _)) (Nat.le_refl _)).drew
  clear c2 c3 c4 f2 f3 f4 K1 K2 pr
  generalize (((W.setCell ⟨w.heap.size, 2, none⟩ (.int .u64 9223372036854775808)).setCell ⟨w.heap.size, 3, none⟩ (.int .u64 0)).setCell ⟨w.heap.size, 4, none⟩ (.int .i64 x2)).drew = W2 at *
  have c0 : W2.cell? ⟨w.heap.size, 0, none⟩ = some (.int .i64 2) := J1.at 0
  have c1 : W2.cell? ⟨w.heap.size, 1, none⟩ = some (.bool false) := J1.at 1
  have c2 : W2.cell? ⟨w.heap.size, 2, none⟩ = some (.int .u64 9223372036854775808) := J1.at 2
  have c3 : W2.cell? ⟨w.heap.size, 3, none⟩ = some (.int .u64 0) := J1.at 3
  have c4 : W2.cell? ⟨w.heap.size, 4, none⟩ = some (.int .i64 x2) := J1.at 4
  have c5 : W2.cell? ⟨w.heap.size, 5, none⟩ = some (.bool false) := J1.at 5
  have c6 : W2.cell? ⟨w.heap.size, 6, none⟩ = some (.int .i64 0) := J1.at 6
  have d0 : W2.cell? ⟨w.heap.size + 1, 0, none⟩ = some (.int .i64 0) := J2.at 0
  have d1 : W2.cell? ⟨w.heap.size + 1, 1, none⟩ = some (.bool false) := J2.at 1
  have d2 : W2.cell? ⟨w.heap.size + 1, 2, none⟩ = some (.int .u64 0) := J2.at 2
  have d3 : W2.cell? ⟨w.heap.size + 1, 3, none⟩ = some (.int .u64 0) := J2.at 3
  have d4 : W2.cell? ⟨w.heap.size + 1, 4, none⟩ = some (.int .i64 0) := J2.at 4
  have d5 : W2.cell? ⟨w.heap.size + 1, 5, none⟩ = some (.bool false) := J2.at 5
  have d6 : W2.cell? ⟨w.heap.size + 1, 6, none⟩ = some (.int .i64 0) := J2.at 6
  have f0 := J2.free 0
  have f1 := J2.free 1
  have f2 := J2.free 2
  have f3 := J2.free 3
  have f4 := J2.free 4
  have f5 := J2.free 5
  have f6 := J2.free 6
  go_wp2
  have JF : Blk (((((((W2.setCell ⟨w.heap.size + 1, 0, none⟩ (.int .i64 2)).setCell ⟨w.heap.size + 1, 1, none⟩ (.bool false)).setCell ⟨w.heap.size + 1, 2, none⟩ (.int .u64 9223372036854775808)).setCell ⟨w.heap.size + 1, 3, none⟩ (.int .u64 0)).setCell ⟨w.heap.size + 1, 4, none⟩ (.int .i64 x2)).setCell ⟨w.heap.size + 1, 5, none⟩ (.bool false)).setCell ⟨w.heap.size + 1, 6, none⟩ (.int .i64 0)) (w.heap.size + 1) #[.int .i64 2, .bool false, .int .u64 9223372036854775808, .int .u64 0, .int .i64 x2, .bool false, .int .i64 0] 85 := (blk_set (blk_set (blk_set (blk_set (blk_set (blk_set (blk_set J2)))))))
  have F0 : (((((((W2.setCell ⟨w.heap.size + 1, 0, none⟩ (.int .i64 2)).setCell ⟨w.heap.size + 1, 1, none⟩ (.bool false)).setCell ⟨w.heap.size + 1, 2, none⟩ (.int .u64 9223372036854775808)).setCell ⟨w.heap.size + 1, 3, none⟩ (.int .u64 0)).setCell ⟨w.heap.size + 1, 4, none⟩ (.int .i64 x2)).setCell ⟨w.heap.size + 1, 5, none⟩ (.bool false)).setCell ⟨w.heap.size + 1, 6, none⟩ (.int .i64 0)).cell? ⟨w.heap.size + 1, 0, none⟩ = some (.int .i64 2) := JF.at 0
  have F1 : (((((((W2.setCell ⟨w.heap.size + 1, 0, none⟩ (.int .i64 2)).setCell ⟨w.heap.size + 1, 1, none⟩ (.bool false)).setCell ⟨w.heap.size + 1, 2, none⟩ (.int .u64 9223372036854775808)).setCell ⟨w.heap.size + 1, 3, none⟩ (.int .u64 0)).setCell ⟨w.heap.size + 1, 4, none⟩ (.int .i64 x2)).setCell ⟨w.heap.size + 1, 5, none⟩ (.bool false)).setCell ⟨w.heap.size + 1, 6, none⟩ (.int .i64 0)).cell? ⟨w.heap.size + 1, 1, none⟩ = some (.bool false) := JF.at 1
  have F2 : (((((((W2.setCell ⟨w.heap.size + 1, 0, none⟩ (.int .i64 2)).setCell ⟨w.heap.size + 1, 1, none⟩ (.bool false)).setCell ⟨w.heap.size + 1, 2, none⟩ (.int .u64 9223372036854775808)).setCell ⟨w.heap.size + 1, 3, none⟩ (.int .u64 0)).setCell ⟨w.heap.size + 1, 4, none⟩ (.int .i64 x2)).setCell ⟨w.heap.size + 1, 5, none⟩ (.bool false)).setCell ⟨w.heap.size + 1, 6, none⟩ (.int .i64 0)).cell? ⟨w.heap.size + 1, 2, none⟩ = some (.int .u64 9223372036854775808) := JF.at 2
  have F3 : (((((((W2.setCell ⟨w.heap.size + 1, 0, none⟩ (.int .i64 2)).setCell ⟨w.heap.size + 1, 1, none⟩ (.bool false)).setCell ⟨w.heap.size + 1, 2, none⟩ (.int .u64 9223372036854775808)).setCell ⟨w.heap.size + 1, 3, none⟩ (.int .u64 0)).setCell ⟨w.heap.size + 1, 4, none⟩ (.int .i64 x2)).setCell ⟨w.heap.size + 1, 5, none⟩ (.bool false)).setCell ⟨w.heap.size + 1, 6, none⟩ (.int .i64 0)).cell? ⟨w.heap.size + 1, 3, none⟩ = some (.int .u64 0) := JF.at 3
  have F4 : (((((((W2.setCell ⟨w.heap.size + 1, 0, none⟩ (.int .i64 2)).setCell ⟨w.heap.size + 1, 1, none⟩ (.bool false)).setCell ⟨w.heap.size + 1, 2, none⟩ (.int .u64 9223372036854775808)).setCell ⟨w.heap.size + 1, 3, none⟩ (.int .u64 0)).setCell ⟨w.heap.size + 1, 4, none⟩ (.int .i64 x2)).setCell ⟨w.heap.size + 1, 5, none⟩ (.bool false)).setCell ⟨w.heap.size + 1, 6, none⟩ (.int .i64 0)).cell? ⟨w.heap.size + 1, 4, none⟩ = some (.int .i64 x2) := JF.at 4
  have F5 : (((((((W2.setCell ⟨w.heap.size + 1, 0, none⟩ (.int .i64 2)).setCell ⟨w.heap.size + 1, 1, none⟩ (.bool false)).setCell ⟨w.heap.size + 1, 2, none⟩ (.int .u64 9223372036854775808)).setCell ⟨w.heap.size + 1, 3, none⟩ (.int .u64 0)).setCell ⟨w.heap.size + 1, 4, none⟩ (.int .i64 x2)).setCell ⟨w.heap.size + 1, 5, none⟩ (.bool false)).setCell ⟨w.heap.size + 1, 6, none⟩ (.int .i64 0)).cell? ⟨w.heap.size + 1, 5, none⟩ = some (.bool false) := JF.at 5
  have F6 : (((((((W2.setCell ⟨w.heap.size + 1, 0, none⟩ (.int .i64 2)).setCell ⟨w.heap.size + 1, 1, none⟩ (.bool false)).setCell ⟨w.heap.size + 1, 2, none⟩ (.int .u64 9223372036854775808)).setCell ⟨w.heap.size + 1, 3, none⟩ (.int .u64 0)).setCell ⟨w.heap.size + 1, 4, none⟩ (.int .i64 x2)).setCell ⟨w.heap.size + 1, 5, none⟩ (.bool false)).setCell ⟨w.heap.size + 1, 6, none⟩ (.int .i64 0)).cell? ⟨w.heap.size + 1, 6, none⟩ = some (.int .i64 0) := JF.at 6
  exact bodyPost_ret (v := .agg #[.int .i64 2, .bool false, .int .u64 9223372036854775808, .int .u64 0, .int .i64 x2, .bool false, .int .i64 0]) (by simp [results, Try.results80, go_sem, F0, F1, F2, F3, F4, F5, F6]) rfl ⟨rfl, (bel_set (bel_set (bel_set (bel_set (bel_set (bel_set (bel_set pr2 (Nat.le_succ _)) (Nat.le_succ _)) (Nat.le_succ _)) (Nat.le_succ _)) (Nat.le_succ _)) (Nat.le_succ _)) (Nat.le_succ _))⟩
end Go.Proofs.Ytjgljcifnklmeaa
