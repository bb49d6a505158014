import Derived.Test.YtfpmegfdopnnpaaPart13
import Derived.Deep.RegionHeld3
import Derived.Shelf.Small.Bits
import Derived.Shelf.Strconv.Itoa0
import Derived.Test.YtfpmegfdopnnpaaProg
import Derived.Test.YtfpmegfdopnnpaaPart04

namespace Go.Proofs.Ytfpmegfdopnnpaa
open Go.RowKit Tn

set_option maxRecDepth 100000 in
set_option maxHeartbeats 1600000 in
theorem Len64_one (w : World) : Calls Try.prog 97 #[.int .u64 1] w fun e w' => e = .returned (.int .i64 1) ∧ w' = w := by
  go_enter Try.func97, Try.ntmps97
  go_wp2
  go_ret
  exact ⟨by kernel_rfl, rfl⟩
set_option maxRecDepth 100000 in
theorem LeadingZeros64_one (w : World) : Calls Try.prog 104 #[.int .u64 1] w fun e w' => e = .returned (.int .i64 63) ∧ w' = w := by
  go_enter Try.func104, Try.ntmps104
  go_wp2_with (first
    | (go_at_call 97; refine (Len64_one _).mono ?_; rintro e w' ⟨rfl, rfl⟩)
    | fail)
  go_ret
  exact ⟨rfl, rfl⟩
theorem blk_set {w : World} {n i : Nat} {c : Array Value} {t : TypeId} {v : Value} (h : Blk w n c t) : Blk (w.setCell ⟨n, i, none⟩ v) n (c.setIfInBounds i v) t := by
  have h' : w.heap[n]? = some (.cells c t (0, 0)) := h
  show (w.setCell ⟨n, i, none⟩ v).heap[n]? = _
  simp [World.setCell, Array.getElem?_modify, h']
theorem blk_set_other {w : World} {n m i : Nat} {c : Array Value} {t : TypeId} {v : Value} (h : Blk w n c t) (hn : n ≠ m) : Blk (w.setCell ⟨m, i, none⟩ v) n c t := h.wr ((Wr.refl m i 1 w).setCell i (by omega) v) hn
theorem bel_set {w W : World} {m i : Nat} {v : Value} (h : Below w.heap.size w W) (hm : w.heap.size ≤ m) : Below w.heap.size w (W.setCell ⟨m, i, none⟩ v) := h.setCell (p := ⟨m, i, none⟩) hm v
/-- A number of float's own. -/
abbrev nmb (k : Int) (g : Bool) (h l e : Int) (m : Bool) (f : Int) : Value := .agg #[.int .i64 k, .bool g, .int .u64 h, .int .u64 l, .int .i64 e, .bool m, .int .i64 f]
set_option maxRecDepth 100000 in
set_option maxHeartbeats 1600000 in
theorem raised_one (x1 x2 E : Int) (hx1 : IntKind.i64.wrap (E - 64) = x1) (hx2 : IntKind.i64.wrap (x1 - 63) = x2) (w : World) :
    Calls Try.prog 80 #[.agg #[.int .i64 2, .bool false, .int .u64 0, .int .u64 1, .int .i64 E, .bool false, .int .i64 0]] w fun e w' => e = .returned (.agg #[.int .i64 2, .bool false, .int .u64 9223372036854775808, .int .u64 0, .int .i64 x2, .bool false, .int .i64 0]) ∧ Below w.heap.size w w' := by
  go_enter Try.func80, Try.ntmps80
  go_wp2_with (first
    | (go_at_call 104; refine (LeadingZeros64_one _).mono ?_; rintro e w' ⟨rfl, rfl⟩)
    | fail)
  generalize hW : (w.alloc (.cells #[.int .i64 2, .bool false, .int .u64 1, .int .u64 0, .int .i64 x1, .bool false, .int .i64 0] 85)).alloc (.cells #[.int .i64 0, .bool false, .int .u64 0, .int .u64 0, .int .i64 0, .bool false, .int .i64 0] 85) = W
  have K1 : Blk W w.heap.size #[.int .i64 2, .bool false, .int .u64 1, .int .u64 0, .int .i64 x1, .bool false, .int .i64 0] 85 := by rw [← hW]; exact (Blk.new w _ _).alloc _
  have K2 : Blk W (w.heap.size + 1) #[.int .i64 0, .bool false, .int .u64 0, .int .u64 0, .int .i64 0, .bool false, .int .i64 0] 85 := by rw [← hW]; have := Blk.new (w.alloc (.cells #[.int .i64 2, .bool false, .int .u64 1, .int .u64 0, .int .i64 x1, .bool false, .int .i64 0] 85)) #[.int .i64 0, .bool false, .int .u64 0, .int .u64 0, .int .i64 0, .bool false, .int .i64 0] 85; simpa using this
  have pr : Below w.heap.size w W := by rw [← hW]; exact ((Below.refl _ _).alloc (Nat.le_refl _) _).alloc (by simp) _
  clear hW
  have c2 : W.cell? ⟨w.heap.size, 2, none⟩ = some (.int .u64 1) := K1.at 2
  have c3 : W.cell? ⟨w.heap.size, 3, none⟩ = some (.int .u64 0) := K1.at 3
  have c4 : W.cell? ⟨w.heap.size, 4, none⟩ = some (.int .i64 x1) := K1.at 4
  have f2 := K1.free 2
  have f3 := K1.free 3
  have f4 := K1.free 4
  have o1 : bits .or .u64 9223372036854775808 0 = 9223372036854775808 := by decide
  go_region
  have J1 : Blk (((W.setCell ⟨w.heap.size, 2, none⟩ (.int .u64 9223372036854775808)).setCell ⟨w.heap.size, 3, none⟩ (.int .u64 0)).setCell ⟨w.heap.size, 4, none⟩ (.int .i64 x2)).drew w.heap.size #[.int .i64 2, .bool false, .int .u64 9223372036854775808, .int .u64 0, .int .i64 x2, .bool false, .int .i64 0] 85 := blk_set (blk_set (blk_set K1))
  have J2 : Blk (((W.setCell ⟨w.heap.size, 2, none⟩ (.int .u64 9223372036854775808)).setCell ⟨w.heap.size, 3, none⟩ (.int .u64 0)).setCell ⟨w.heap.size, 4, none⟩ (.int .i64 x2)).drew (w.heap.size + 1) #[.int .i64 0, .bool false, .int .u64 0, .int .u64 0, .int .i64 0, .bool false, .int .i64 0] 85 := blk_set_other (blk_set_other (blk_set_other K2 (by omega)) (by omega)) (by omega)
  have pr2 : Below w.heap.size w (((W.setCell ⟨w.heap.size, 2, none⟩ (.int .u64 9223372036854775808)).setCell ⟨w.heap.size, 3, none⟩ (.int .u64 0)).setCell ⟨w.heap.size, 4, none⟩ (.int .i64 x2)).drew := (bel_set (bel_set (bel_set pr (Nat.le_refl _)) (Nat.le_refl _)) (Nat.le_refl _)).drew
  clear c2 c3 c4 f2 f3 f4 K1 K2 pr
  generalize (((W.setCell ⟨w.heap.size, 2, none⟩ (.int .u64 9223372036854775808)).setCell ⟨w.heap.size, 3, none⟩ (.int .u64 0)).setCell ⟨w.heap.size, 4, none⟩ (.int .i64 x2)).drew = W2 at *
  have c0 : W2.cell? ⟨w.heap.size, 0, none⟩ = some (.int .i64 2) := J1.at 0
  have c1 : W2.cell? ⟨w.heap.size, 1, none⟩ = some (.bool false) := J1.at 1
  have c2 : W2.cell? ⟨w.heap.size, 2, none⟩ = some (.int .u64 9223372036854775808) := J1.at 2
  have c3 : W2.cell? ⟨w.heap.size, 3, none⟩ = some (.int .u64 0) := J1.at 3
  have c4 : W2.cell? ⟨w.heap.size, 4, none⟩ = some (.int .i64 x2) := J1.at 4
  have c5 : W2.cell? ⟨w.heap.size, 5, none⟩ = some (.bool false) := J1.at 5
  have c6 : W2.cell? ⟨w.heap.size, 6, none⟩ = some (.int .i64 0) := J1.at 6
  have d0 : W2.cell? ⟨w.heap.size + 1, 0, none⟩ = some (.int .i64 0) := J2.at 0
  have d1 : W2.cell? ⟨w.heap.size + 1, 1, none⟩ = some (.bool false) := J2.at 1
  have d2 : W2.cell? ⟨w.heap.size + 1, 2, none⟩ = some (.int .u64 0) := J2.at 2
  have d3 : W2.cell? ⟨w.heap.size + 1, 3, none⟩ = some (.int .u64 0) := J2.at 3
  have d4 : W2.cell? ⟨w.heap.size + 1, 4, none⟩ = some (.int .i64 0) := J2.at 4
  have d5 : W2.cell? ⟨w.heap.size + 1, 5, none⟩ = some (.bool false) := J2.at 5
  have d6 : W2.cell? ⟨w.heap.size + 1, 6, none⟩ = some (.int .i64 0) := J2.at 6
  have f0 := J2.free 0
  have f1 := J2.free 1
  have f2 := J2.free 2
  have f3 := J2.free 3
  have f4 := J2.free 4
  have f5 := J2.free 5
  have f6 := J2.free 6
  go_wp2
  have JF : Blk (((((((W2.setCell ⟨w.heap.size + 1, 0, none⟩ (.int .i64 2)).setCell ⟨w.heap.size + 1, 1, none⟩ (.bool false)).setCell ⟨w.heap.size + 1, 2, none⟩ (.int .u64 9223372036854775808)).setCell ⟨w.heap.size + 1, 3, none⟩ (.int .u64 0)).setCell ⟨w.heap.size + 1, 4, none⟩ (.int .i64 x2)).setCell ⟨w.heap.size + 1, 5, none⟩ (.bool false)).setCell ⟨w.heap.size + 1, 6, none⟩ (.int .i64 0)) (w.heap.size + 1) #[.int .i64 2, .bool false, .int .u64 9223372036854775808, .int .u64 0, .int .i64 x2, .bool false, .int .i64 0] 85 := (blk_set (blk_set (blk_set (blk_set (blk_set (blk_set (blk_set J2)))))))
  have F0 : (((((((W2.setCell ⟨w.heap.size + 1, 0, none⟩ (.int .i64 2)).setCell ⟨w.heap.size + 1, 1, none⟩ (.bool false)).setCell ⟨w.heap.size + 1, 2, none⟩ (.int .u64 9223372036854775808)).setCell ⟨w.heap.size + 1, 3, none⟩ (.int .u64 0)).setCell ⟨w.heap.size + 1, 4, none⟩ (.int .i64 x2)).setCell ⟨w.heap.size + 1, 5, none⟩ (.bool false)).setCell ⟨w.heap.size + 1, 6, none⟩ (.int .i64 0)).cell? ⟨w.heap.size + 1, 0, none⟩ = some (.int .i64 2) := JF.at 0
  have F1 : (((((((W2.setCell ⟨w.heap.size + 1, 0, none⟩ (.int .i64 2)).setCell ⟨w.heap.size + 1, 1, none⟩ (.bool false)).setCell ⟨w.heap.size + 1, 2, none⟩ (.int .u64 9223372036854775808)).setCell ⟨w.heap.size + 1, 3, none⟩ (.int .u64 0)).setCell ⟨w.heap.size + 1, 4, none⟩ (.int .i64 x2)).setCell ⟨w.heap.size + 1, 5, none⟩ (.bool false)).setCell ⟨w.heap.size + 1, 6, none⟩ (.int .i64 0)).cell? ⟨w.heap.size + 1, 1, none⟩ = some (.bool false) := JF.at 1
  have F2 : (((((((W2.setCell ⟨w.heap.size + 1, 0, none⟩ (.int .i64 2)).setCell ⟨w.heap.size + 1, 1, none⟩ (.bool false)).setCell ⟨w.heap.size + 1, 2, none⟩ (.int .u64 9223372036854775808)).setCell ⟨w.heap.size + 1, 3, none⟩ (.int .u64 0)).setCell ⟨w.heap.size + 1, 4, none⟩ (.int .i64 x2)).setCell ⟨w.heap.size + 1, 5, none⟩ (.bool false)).setCell ⟨w.heap.size + 1, 6, none⟩ (.int .i64 0)).cell? ⟨w.heap.size + 1, 2, none⟩ = some (.int .u64 9223372036854775808) := JF.at 2
  have F3 : (((((((W2.setCell ⟨w.heap.size + 1, 0, none⟩ (.int .i64 2)).setCell ⟨w.heap.size + 1, 1, none⟩ (.bool false)).setCell ⟨w.heap.size + 1, 2, none⟩ (.int .u64 9223372036854775808)).setCell ⟨w.heap.size + 1, 3, none⟩ (.int .u64 0)).setCell ⟨w.heap.size + 1, 4, none⟩ (.int .i64 x2)).setCell ⟨w.heap.size + 1, 5, none⟩ (.bool false)).setCell ⟨w.heap.size + 1, 6, none⟩ (.int .i64 0)).cell? ⟨w.heap.size + 1, 3, none⟩ = some (.int .u64 0) := JF.at 3
  have F4 : (((((((W2.setCell ⟨w.heap.size + 1, 0, none⟩ (.int .i64 2)).setCell ⟨w.heap.size + 1, 1, none⟩ (.bool false)).setCell ⟨w.heap.size + 1, 2, none⟩ (.int .u64 9223372036854775808)).setCell ⟨w.heap.size + 1, 3, none⟩ (.int .u64 0)).setCell ⟨w.heap.size + 1, 4, none⟩ (.int .i64 x2)).setCell ⟨w.heap.size + 1, 5, none⟩ (.bool false)).setCell ⟨w.heap.size + 1, 6, none⟩ (.int .i64 0)).cell? ⟨w.heap.size + 1, 4, none⟩ = some (.int .i64 x2) := JF.at 4
  have F5 : (((((((W2.setCell ⟨w.heap.size + 1, 0, none⟩ (.int .i64 2)).setCell ⟨w.heap.size + 1, 1, none⟩ (.bool false)).setCell ⟨w.heap.size + 1, 2, none⟩ (.int .u64 9223372036854775808)).setCell ⟨w.heap.size + 1, 3, none⟩ (.int .u64 0)).setCell ⟨w.heap.size + 1, 4, none⟩ (.int .i64 x2)).setCell ⟨w.heap.size + 1, 5, none⟩ (.bool false)).setCell ⟨w.heap.size + 1, 6, none⟩ (.int .i64 0)).cell? ⟨w.heap.size + 1, 5, none⟩ = some (.bool false) := JF.at 5
  have F6 : (((((((W2.setCell ⟨w.heap.size + 1, 0, none⟩ (.int .i64 2)).setCell ⟨w.heap.size + 1, 1, none⟩ (.bool false)).setCell ⟨w.heap.size + 1, 2, none⟩ (.int .u64 9223372036854775808)).setCell ⟨w.heap.size + 1, 3, none⟩ (.int .u64 0)).setCell ⟨w.heap.size + 1, 4, none⟩ (.int .i64 x2)).setCell ⟨w.heap.size + 1, 5, none⟩ (.bool false)).setCell ⟨w.heap.size + 1, 6, none⟩ (.int .i64 0)).cell? ⟨w.heap.size + 1, 6, none⟩ = some (.int .i64 0) := JF.at 6
  exact bodyPost_ret (v := .agg #[.int .i64 2, .bool false, .int .u64 9223372036854775808, .int .u64 0, .int .i64 x2, .bool false, .int .i64 0]) (by simp [results, Try.results80, go_sem, F0, F1, F2, F3, F4, F5, F6]) rfl ⟨rfl, (bel_set (bel_set (bel_set (bel_set (bel_set (bel_set (bel_set pr2 (Nat.le_succ _)) (Nat.le_succ _)) (Nat.le_succ _)) (Nat.le_succ _)) (Nat.le_succ _)) (Nat.le_succ _)) (Nat.le_succ _))⟩
end Go.Proofs.Ytfpmegfdopnnpaa

namespace Go.Proofs.Ytfpmegfdopnnpaa
open Go.RowKit Tn

set_option maxRecDepth 100000 in
theorem IsWay_yes (way : Int) (h1 : 1 ≤ way) (h2 : way ≤ 6) (w : World) : Calls Try.prog 52 #[.int .i64 way] w fun e w' => e = .returned (.bool true) ∧ w' = w := by
  go_enter Try.func52, Try.ntmps52
  go_wp2
  go_ret
  exact ⟨rfl, rfl⟩
set_option maxRecDepth 100000 in
theorem IsWay_low (way : Int) (h1 : way < 1) (w : World) : Calls Try.prog 52 #[.int .i64 way] w fun e w' => e = .returned (.bool false) ∧ w' = w := by
  have h : ¬ 1 ≤ way := by omega
  go_enter Try.func52, Try.ntmps52
  go_wp2
  go_ret
  exact ⟨rfl, rfl⟩
set_option maxRecDepth 100000 in
theorem IsWay_high (way : Int) (h1 : 6 < way) (w : World) : Calls Try.prog 52 #[.int .i64 way] w fun e w' => e = .returned (.bool false) ∧ w' = w := by
  have h : 1 ≤ way := by omega
  have h2 : ¬ way ≤ 6 := by omega
  go_enter Try.func52, Try.ntmps52
  go_wp2
  go_ret
  exact ⟨rfl, rfl⟩
set_option maxRecDepth 100000 in
set_option maxHeartbeats 1600000 in
theorem tooGreat_w_inf (neg : Bool) (way N : Int) (hA : awayF way neg false 1 = true)
    (PK : ∀ w, Calls Try.prog 79 #[fmtW, .agg #[.int .i64 3, .bool neg, .int .u64 0, .int .i64 0]] w fun e w' => e = .returned (.int .u64 N) ∧ Below w.heap.size w w') (w : World) :
    Calls Try.prog 82 #[.agg #[.int .i64 53, .int .i64 (-1074), .int .i64 971], .bool neg, .int .i64 way] w fun e w' => e = .returned (.int .u64 N) ∧ Below w.heap.size w w' := by
  have A := IsAway_any neg false 1 way
  rw [hA] at A
  have c1 : IntKind.u64.wrap 9007199254740992 = 9007199254740992 := by decide
  have c2 : IntKind.u64.wrap 9007199254740991 = 9007199254740991 := by decide
  have K := Blk.new w #[.int .i64 53, .int .i64 (-1074), .int .i64 971] 72
  have pr : Below w.heap.size w (w.alloc (.cells #[.int .i64 53, .int .i64 (-1074), .int .i64 971] 72)) := (Below.refl _ _).alloc (Nat.le_refl _) _
  go_enter Try.func82, Try.ntmps82
  go_wp2_with (first
    | (go_at_call 105; refine (A _).mono ?_; rintro x w1 ⟨rfl, rfl⟩)
    | (go_at_call 79; refine (PK _).mono ?_; rintro x w2 ⟨rfl, b2⟩; replace pr := bel pr b2)
    | fail)
  go_ret
  exact ⟨rfl, pr⟩
set_option maxRecDepth 100000 in
set_option maxHeartbeats 1600000 in
theorem tooGreat_w_max (neg : Bool) (way N : Int) (hA : awayF way neg false 1 = false)
    (PK : ∀ w, Calls Try.prog 79 #[fmtW, prt4 (finW neg 9007199254740991 971)] w fun e w' => e = .returned (.int .u64 N) ∧ Below w.heap.size w w') (w : World) :
    Calls Try.prog 82 #[.agg #[.int .i64 53, .int .i64 (-1074), .int .i64 971], .bool neg, .int .i64 way] w fun e w' => e = .returned (.int .u64 N) ∧ Below w.heap.size w w' := by
  have A := IsAway_any neg false 1 way
  rw [hA] at A
  have c1 : IntKind.u64.wrap 9007199254740992 = 9007199254740992 := by decide
  have c2 : IntKind.u64.wrap 9007199254740991 = 9007199254740991 := by decide
  have K := Blk.new w #[.int .i64 53, .int .i64 (-1074), .int .i64 971] 72
  have pr : Below w.heap.size w (w.alloc (.cells #[.int .i64 53, .int .i64 (-1074), .int .i64 971] 72)) := (Below.refl _ _).alloc (Nat.le_refl _) _
  go_enter Try.func82, Try.ntmps82
  go_wp2_with (first
    | (go_at_call 105; refine (A _).mono ?_; rintro x w1 ⟨rfl, rfl⟩)
    | fail)
  generalize w.alloc (.cells #[.int .i64 53, .int .i64 (-1074), .int .i64 971] 72) = W at *
  have e0 : W.cell? ⟨w.heap.size, 0, none⟩ = some (.int .i64 53) := K.at 0
  have e1 : W.cell? ⟨w.heap.size, 1, none⟩ = some (.int .i64 (-1074)) := K.at 1
  have e2 : W.cell? ⟨w.heap.size, 2, none⟩ = some (.int .i64 971) := K.at 2
  go_region_held3 (fun x => x.cell? ⟨w.heap.size, 0, none⟩ = some (.int .i64 53) ∧ x.cell? ⟨w.heap.size, 1, none⟩ = some (.int .i64 (-1074)) ∧ x.cell? ⟨w.heap.size, 2, none⟩ = some (.int .i64 971)) (go_keep) (first
    | (go_at_call 77; (with_reducible refine (leastNormal_w _).mono ?_); rintro x w3 ⟨rfl, b5⟩; replace K := K.below b5 K.lt; replace pr := bel pr b5; clear b5; have e0 : w3.cell? ⟨w.heap.size, 0, none⟩ = some (.int .i64 53) := K.at 0; have e1 : w3.cell? ⟨w.heap.size, 1, none⟩ = some (.int .i64 (-1074)) := K.at 1; have e2 : w3.cell? ⟨w.heap.size, 2, none⟩ = some (.int .i64 971) := K.at 2)
    | (go_at_call 77; (with_reducible refine (leastNormal_w _).mono ?_); rintro x w3 ⟨rfl, b5⟩; replace K := K.below (below_undrew b5) K.lt; replace pr := bel pr (below_undrew b5); clear b5; have e0 : w3.cell? ⟨w.heap.size, 0, none⟩ = some (.int .i64 53) := K.at 0; have e1 : w3.cell? ⟨w.heap.size, 1, none⟩ = some (.int .i64 (-1074)) := K.at 1; have e2 : w3.cell? ⟨w.heap.size, 2, none⟩ = some (.int .i64 971) := K.at 2)
    | (go_at_call 83; (with_reducible refine (finite_w neg 9007199254740991 971 _).mono ?_); rintro x w4 ⟨rfl, b5⟩; replace K := K.below b5 K.lt; replace pr := bel pr b5; clear b5; have e0 : w4.cell? ⟨w.heap.size, 0, none⟩ = some (.int .i64 53) := K.at 0; have e1 : w4.cell? ⟨w.heap.size, 1, none⟩ = some (.int .i64 (-1074)) := K.at 1; have e2 : w4.cell? ⟨w.heap.size, 2, none⟩ = some (.int .i64 971) := K.at 2)
    | (go_at_call 83; (with_reducible refine (finite_w neg 9007199254740991 971 _).mono ?_); rintro x w4 ⟨rfl, b5⟩; replace K := K.below (below_undrew b5) K.lt; replace pr := bel pr (below_undrew b5); clear b5; have e0 : w4.cell? ⟨w.heap.size, 0, none⟩ = some (.int .i64 53) := K.at 0; have e1 : w4.cell? ⟨w.heap.size, 1, none⟩ = some (.int .i64 (-1074)) := K.at 1; have e2 : w4.cell? ⟨w.heap.size, 2, none⟩ = some (.int .i64 971) := K.at 2)
    | (go_at_call 79; (with_reducible refine (PK _).mono ?_); rintro x w5 ⟨rfl, b5⟩; replace K := K.below b5 K.lt; replace pr := bel pr b5; clear b5; have e0 : w5.cell? ⟨w.heap.size, 0, none⟩ = some (.int .i64 53) := K.at 0; have e1 : w5.cell? ⟨w.heap.size, 1, none⟩ = some (.int .i64 (-1074)) := K.at 1; have e2 : w5.cell? ⟨w.heap.size, 2, none⟩ = some (.int .i64 971) := K.at 2)
    | (go_at_call 79; (with_reducible refine (PK _).mono ?_); rintro x w5 ⟨rfl, b5⟩; replace K := K.below (below_undrew b5) K.lt; replace pr := bel pr (below_undrew b5); clear b5; have e0 : w5.cell? ⟨w.heap.size, 0, none⟩ = some (.int .i64 53) := K.at 0; have e1 : w5.cell? ⟨w.heap.size, 1, none⟩ = some (.int .i64 (-1074)) := K.at 1; have e2 : w5.cell? ⟨w.heap.size, 2, none⟩ = some (.int .i64 971) := K.at 2)
    | fail)
  go_wp2
  go_ret
  exact ⟨rfl, pr⟩
set_option maxRecDepth 100000 in
set_option maxHeartbeats 1600000 in
theorem tooGreat_s_inf (neg : Bool) (way N : Int) (hA : awayF way neg false 1 = true)
    (PK : ∀ w, Calls Try.prog 79 #[fmtS, .agg #[.int .i64 3, .bool neg, .int .u64 0, .int .i64 0]] w fun e w' => e = .returned (.int .u64 N) ∧ Below w.heap.size w w') (w : World) :
    Calls Try.prog 82 #[.agg #[.int .i64 24, .int .i64 (-149), .int .i64 104], .bool neg, .int .i64 way] w fun e w' => e = .returned (.int .u64 N) ∧ Below w.heap.size w w' := by
  have A := IsAway_any neg false 1 way
  rw [hA] at A
  have c1 : IntKind.u64.wrap 16777216 = 16777216 := by decide
  have c2 : IntKind.u64.wrap 16777215 = 16777215 := by decide
  have K := Blk.new w #[.int .i64 24, .int .i64 (-149), .int .i64 104] 72
  have pr : Below w.heap.size w (w.alloc (.cells #[.int .i64 24, .int .i64 (-149), .int .i64 104] 72)) := (Below.refl _ _).alloc (Nat.le_refl _) _
  go_enter Try.func82, Try.ntmps82
  go_wp2_with (first
    | (go_at_call 105; refine (A _).mono ?_; rintro x w1 ⟨rfl, rfl⟩)
    | (go_at_call 79; refine (PK _).mono ?_; rintro x w2 ⟨rfl, b2⟩; replace pr := bel pr b2)
    | fail)
  go_ret
  exact ⟨rfl, pr⟩
set_option maxRecDepth 100000 in
set_option maxHeartbeats 1600000 in
theorem tooGreat_s_max (neg : Bool) (way N : Int) (hA : awayF way neg false 1 = false)
    (PK : ∀ w, Calls Try.prog 79 #[fmtS, prt4 (finS neg 16777215 104)] w fun e w' => e = .returned (.int .u64 N) ∧ Below w.heap.size w w') (w : World) :
    Calls Try.prog 82 #[.agg #[.int .i64 24, .int .i64 (-149), .int .i64 104], .bool neg, .int .i64 way] w fun e w' => e = .returned (.int .u64 N) ∧ Below w.heap.size w w' := by
  have A := IsAway_any neg false 1 way
  rw [hA] at A
  have c1 : IntKind.u64.wrap 16777216 = 16777216 := by decide
  have c2 : IntKind.u64.wrap 16777215 = 16777215 := by decide
  have K := Blk.new w #[.int .i64 24, .int .i64 (-149), .int .i64 104] 72
  have pr : Below w.heap.size w (w.alloc (.cells #[.int .i64 24, .int .i64 (-149), .int .i64 104] 72)) := (Below.refl _ _).alloc (Nat.le_refl _) _
  go_enter Try.func82, Try.ntmps82
  go_wp2_with (first
    | (go_at_call 105; refine (A _).mono ?_; rintro x w1 ⟨rfl, rfl⟩)
    | fail)
  generalize w.alloc (.cells #[.int .i64 24, .int .i64 (-149), .int .i64 104] 72) = W at *
  have e0 : W.cell? ⟨w.heap.size, 0, none⟩ = some (.int .i64 24) := K.at 0
  have e1 : W.cell? ⟨w.heap.size, 1, none⟩ = some (.int .i64 (-149)) := K.at 1
  have e2 : W.cell? ⟨w.heap.size, 2, none⟩ = some (.int .i64 104) := K.at 2
  go_region_held3 (fun x => x.cell? ⟨w.heap.size, 0, none⟩ = some (.int .i64 24) ∧ x.cell? ⟨w.heap.size, 1, none⟩ = some (.int .i64 (-149)) ∧ x.cell? ⟨w.heap.size, 2, none⟩ = some (.int .i64 104)) (go_keep) (first
    | (go_at_call 77; (with_reducible refine (leastNormal_s _).mono ?_); rintro x w3 ⟨rfl, b5⟩; replace K := K.below b5 K.lt; replace pr := bel pr b5; clear b5; have e0 : w3.cell? ⟨w.heap.size, 0, none⟩ = some (.int .i64 24) := K.at 0; have e1 : w3.cell? ⟨w.heap.size, 1, none⟩ = some (.int .i64 (-149)) := K.at 1; have e2 : w3.cell? ⟨w.heap.size, 2, none⟩ = some (.int .i64 104) := K.at 2)
    | (go_at_call 77; (with_reducible refine (leastNormal_s _).mono ?_); rintro x w3 ⟨rfl, b5⟩; replace K := K.below (below_undrew b5) K.lt; replace pr := bel pr (below_undrew b5); clear b5; have e0 : w3.cell? ⟨w.heap.size, 0, none⟩ = some (.int .i64 24) := K.at 0; have e1 : w3.cell? ⟨w.heap.size, 1, none⟩ = some (.int .i64 (-149)) := K.at 1; have e2 : w3.cell? ⟨w.heap.size, 2, none⟩ = some (.int .i64 104) := K.at 2)
    | (go_at_call 83; (with_reducible refine (finite_s neg 16777215 104 _).mono ?_); rintro x w4 ⟨rfl, b5⟩; replace K := K.below b5 K.lt; replace pr := bel pr b5; clear b5; have e0 : w4.cell? ⟨w.heap.size, 0, none⟩ = some (.int .i64 24) := K.at 0; have e1 : w4.cell? ⟨w.heap.size, 1, none⟩ = some (.int .i64 (-149)) := K.at 1; have e2 : w4.cell? ⟨w.heap.size, 2, none⟩ = some (.int .i64 104) := K.at 2)
    | (go_at_call 83; (with_reducible refine (finite_s neg 16777215 104 _).mono ?_); rintro x w4 ⟨rfl, b5⟩; replace K := K.below (below_undrew b5) K.lt; replace pr := bel pr (below_undrew b5); clear b5; have e0 : w4.cell? ⟨w.heap.size, 0, none⟩ = some (.int .i64 24) := K.at 0; have e1 : w4.cell? ⟨w.heap.size, 1, none⟩ = some (.int .i64 (-149)) := K.at 1; have e2 : w4.cell? ⟨w.heap.size, 2, none⟩ = some (.int .i64 104) := K.at 2)
    | (go_at_call 79; (with_reducible refine (PK _).mono ?_); rintro x w5 ⟨rfl, b5⟩; replace K := K.below b5 K.lt; replace pr := bel pr b5; clear b5; have e0 : w5.cell? ⟨w.heap.size, 0, none⟩ = some (.int .i64 24) := K.at 0; have e1 : w5.cell? ⟨w.heap.size, 1, none⟩ = some (.int .i64 (-149)) := K.at 1; have e2 : w5.cell? ⟨w.heap.size, 2, none⟩ = some (.int .i64 104) := K.at 2)
    | (go_at_call 79; (with_reducible refine (PK _).mono ?_); rintro x w5 ⟨rfl, b5⟩; replace K := K.below (below_undrew b5) K.lt; replace pr := bel pr (below_undrew b5); clear b5; have e0 : w5.cell? ⟨w.heap.size, 0, none⟩ = some (.int .i64 24) := K.at 0; have e1 : w5.cell? ⟨w.heap.size, 1, none⟩ = some (.int .i64 (-149)) := K.at 1; have e2 : w5.cell? ⟨w.heap.size, 2, none⟩ = some (.int .i64 104) := K.at 2)
    | fail)
  go_wp2
  go_ret
  exact ⟨rfl, pr⟩
end Go.Proofs.Ytfpmegfdopnnpaa

/-
  Contracts of the library, laid at this program.
-/
namespace Go.Proofs
open Go.Shelf
def Try.lays134_ren : Go.Shelf.Ren := ⟨fun | 134 => 104 | 129 => 97 | n => n, fun | 53 => 22 | 3 => 3 | 4 => 4 | 46 => 105 | 5 => 5 | 9 => 9 | n => n, fun | n => n⟩
theorem Try.lays134 : Go.Proofs.Lays.n134 Try.prog Try.lays134_ren := {
  mixed := by kernel_rfl
  f129 := Try.func97.trans (congrArg some (by kernel_rfl))
  f134 := Try.func104.trans (congrArg some (by kernel_rfl))
  t3 := Try.underlying3
  a3 := Try.isAgg3
  z3 := Try.sizeOf3
  v3 := Try.zeroValue3
  t4 := Try.underlying4
  a4 := Try.isAgg4
  z4 := Try.sizeOf4
  v4 := Try.zeroValue4
  t5 := Try.underlying5
  a5 := Try.isAgg5
  z5 := Try.sizeOf5
  v5 := Try.zeroValue5
  t9 := Try.underlying9
  a9 := Try.isAgg9
  z9 := Try.sizeOf9
  v9 := Try.zeroValue9
  t46 := Try.underlying105
  a46 := Try.isAgg105
  z46 := Try.sizeOf105
  v46 := Try.zeroValue105
  t53 := Try.underlying22
  a53 := Try.isAgg22
  z53 := Try.sizeOf22
  v53 := Try.zeroValue22 }
theorem Try.bits_LeadingZeros64 (x : Int) (w : World) (h0 : 0 ≤ x) (h1 : x ≤ 18446744073709551615) :
    Calls Try.prog 104 #[.int .u64 x] w fun e w' => e = .returned (.int .i64 (64 - (Lib.bitLen x.toNat : Int))) ∧ w' = w := Any.bits_LeadingZeros64 Try.lays134 x w h0 h1
def Try.lays129_ren : Go.Shelf.Ren := ⟨fun | 129 => 97 | n => n, fun | 53 => 22 | 3 => 3 | 4 => 4 | 46 => 105 | 5 => 5 | 9 => 9 | n => n, fun | n => n⟩
theorem Try.lays129 : Go.Proofs.Lays.n129 Try.prog Try.lays129_ren := {
  mixed := by kernel_rfl
  f129 := Try.func97.trans (congrArg some (by kernel_rfl))
  t3 := Try.underlying3
  a3 := Try.isAgg3
  z3 := Try.sizeOf3
  v3 := Try.zeroValue3
  t4 := Try.underlying4
  a4 := Try.isAgg4
  z4 := Try.sizeOf4
  v4 := Try.zeroValue4
  t5 := Try.underlying5
  a5 := Try.isAgg5
  z5 := Try.sizeOf5
  v5 := Try.zeroValue5
  t9 := Try.underlying9
  a9 := Try.isAgg9
  z9 := Try.sizeOf9
  v9 := Try.zeroValue9
  t46 := Try.underlying105
  a46 := Try.isAgg105
  z46 := Try.sizeOf105
  v46 := Try.zeroValue105
  t53 := Try.underlying22
  a53 := Try.isAgg22
  z53 := Try.sizeOf22
  v53 := Try.zeroValue22 }
theorem Try.bits_Len64 (x : Int) (w : World) (h0 : 0 ≤ x) (h1 : x ≤ 18446744073709551615) :
    Calls Try.prog 97 #[.int .u64 x] w fun e w' => e = .returned (.int .i64 (Lib.bitLen x.toNat)) ∧ w' = w := Any.bits_Len64 Try.lays129 x w h0 h1
end Go.Proofs

namespace Go.Proofs.Ytfpmegfdopnnpaa
open Go.RowKit Tn

theorem bitLen_log2 : ∀ n : Nat, n < 2 ^ 64 → Lib.bitLen n = if n = 0 then 0 else n.log2 + 1 := by
  intro n
  induction n using Nat.strongRecOn with
  | ind n ih =>
    intro hn
    by_cases c : n = 0
    · rw [c]; rfl
    · rw [Lib.bitLen_half n c hn, ih (n / 2) (by omega) (by omega), if_neg c]
      by_cases d : n / 2 = 0
      · have : n = 1 := by omega
        subst this; rfl
      · rw [if_neg d, Nat.log2_def n, if_pos (by omega)]; omega
theorem bl_bitLen (x : Int) (h0 : 0 ≤ x) (h1 : x ≤ 18446744073709551615) : Lib.bitLen x.toNat = L.bl x := by
  rw [bitLen_log2 x.toNat (by omega)]
  unfold L.bl
  by_cases c : x ≤ 0
  · rw [if_pos c, if_pos (by omega)]
  · rw [if_neg c, if_neg (by omega)]
theorem LeadingZeros64_any (x : Int) (h0 : 0 ≤ x) (h1 : x ≤ 18446744073709551615) (w : World) : Calls Try.prog 104 #[.int .u64 x] w fun e w' => e = .returned (.int .i64 (64 - (L.bl x : Int))) ∧ w' = w := by
  have := Try.bits_LeadingZeros64 x w h0 h1
  rw [bl_bitLen x h0 h1] at this
  exact this
theorem Len64_any (x : Int) (h0 : 0 ≤ x) (h1 : x ≤ 18446744073709551615) (w : World) : Calls Try.prog 97 #[.int .u64 x] w fun e w' => e = .returned (.int .i64 (L.bl x : Int)) ∧ w' = w := by
  have := Try.bits_Len64 x w h0 h1
  rw [bl_bitLen x h0 h1] at this
  exact this
set_option maxRecDepth 100000 in
set_option maxHeartbeats 1600000 in
/-- raised, of a number whose high word is nought. -/
theorem raised_low (g mr : Bool) (fl x1 x2 x3 E L H : Int) (lz : Nat) (hx1 : IntKind.i64.wrap (E - 64) = x1) (hx2 : IntKind.i64.wrap (x1 - lz) = x2) (hx3 : IntKind.i64.wrap (64 - lz) = x3)
    (hs1 : Op.shift .shl .u64 L .i64 (lz : Int) = pure (.int .u64 H)) (hs2 : Op.shift .shl .u64 0 .i64 (lz : Int) = pure (.int .u64 0)) (hs3 : Op.shift .shr .u64 0 .i64 x3 = pure (.int .u64 0)) (o1 : bits .or .u64 H 0 = H)
    (LZ : ∀ w, Calls Try.prog 104 #[.int .u64 L] w fun e w' => e = .returned (.int .i64 (lz : Int)) ∧ w' = w) (w : World) :
    Calls Try.prog 80 #[.agg #[.int .i64 2, .bool g, .int .u64 0, .int .u64 L, .int .i64 E, .bool mr, .int .i64 fl]] w fun e w' => e = .returned (.agg #[.int .i64 2, .bool g, .int .u64 H, .int .u64 0, .int .i64 x2, .bool mr, .int .i64 fl]) ∧ Below w.heap.size w w' := by
  go_enter Try.func80, Try.ntmps80
  go_wp2_with (first
    | (go_at_call 104; refine (LZ _).mono ?_; rintro e w' ⟨rfl, rfl⟩)
    | fail)
  generalize hW : (w.alloc (.cells #[.int .i64 2, .bool g, .int .u64 L, .int .u64 0, .int .i64 x1, .bool mr, .int .i64 fl] 85)).alloc (.cells #[.int .i64 0, .bool false, .int .u64 0, .int .u64 0, .int .i64 0, .bool false, .int .i64 0] 85) = W
  have K1 : Blk W w.heap.size #[.int .i64 2, .bool g, .int .u64 L, .int .u64 0, .int .i64 x1, .bool mr, .int .i64 fl] 85 := by rw [← hW]; exact (Blk.new w _ _).alloc _
  have K2 : Blk W (w.heap.size + 1) #[.int .i64 0, .bool false, .int .u64 0, .int .u64 0, .int .i64 0, .bool false, .int .i64 0] 85 := by rw [← hW]; have := Blk.new (w.alloc (.cells #[.int .i64 2, .bool g, .int .u64 L, .int .u64 0, .int .i64 x1, .bool mr, .int .i64 fl] 85)) #[.int .i64 0, .bool false, .int .u64 0, .int .u64 0, .int .i64 0, .bool false, .int .i64 0] 85; simpa using this
  have pr : Below w.heap.size w W := by rw [← hW]; exact ((Below.refl _ _).alloc (Nat.le_refl _) _).alloc (by simp) _
  clear hW
  have c2 : W.cell? ⟨w.heap.size, 2, none⟩ = some (.int .u64 L) := K1.at 2
  have c3 : W.cell? ⟨w.heap.size, 3, none⟩ = some (.int .u64 0) := K1.at 3
  have c4 : W.cell? ⟨w.heap.size, 4, none⟩ = some (.int .i64 x1) := K1.at 4
  have f2 := K1.free 2
  have f3 := K1.free 3
  have f4 := K1.free 4
  go_region
  have J1 : Blk (((W.setCell ⟨w.heap.size, 2, none⟩ (.int .u64 H)).setCell ⟨w.heap.size, 3, none⟩ (.int .u64 0)).setCell ⟨w.heap.size, 4, none⟩ (.int .i64 x2)).drew w.heap.size #[.int .i64 2, .bool g, .int .u64 H, .int .u64 0, .int .i64 x2, .bool mr, .int .i64 fl] 85 := blk_set (blk_set (blk_set K1))
  have J2 : Blk (((W.setCell ⟨w.heap.size, 2, none⟩ (.int .u64 H)).setCell ⟨w.heap.size, 3, none⟩ (.int .u64 0)).setCell ⟨w.heap.size, 4, none⟩ (.int .i64 x2)).drew (w.heap.size + 1) #[.int .i64 0, .bool false, .int .u64 0, .int .u64 0, .int .i64 0, .bool false, .int .i64 0] 85 := blk_set_other (blk_set_other (blk_set_other K2 (by omega)) (by omega)) (by omega)
  have pr2 : Below w.heap.size w (((W.setCell ⟨w.heap.size, 2, none⟩ (.int .u64 H)).setCell ⟨w.heap.size, 3, none⟩ (.int .u64 0)).setCell ⟨w.heap.size, 4, none⟩ (.int .i64 x2)).drew := (bel_set (bel_set (bel_set pr (Nat.le_refl _)) (Nat.le_refl _)) (Nat.le_refl _)).drew
  clear c2 c3 c4 f2 f3 f4 K1 K2 pr
  generalize (((W.setCell ⟨w.heap.size, 2, none⟩ (.int .u64 H)).setCell ⟨w.heap.size, 3, none⟩ (.int .u64 0)).setCell ⟨w.heap.size, 4, none⟩ (.int .i64 x2)).drew = W2 at *
  have c0 : W2.cell? ⟨w.heap.size, 0, none⟩ = some (.int .i64 2) := J1.at 0
  have c1 : W2.cell? ⟨w.heap.size, 1, none⟩ = some (.bool g) := J1.at 1
  have c2 : W2.cell? ⟨w.heap.size, 2, none⟩ = some (.int .u64 H) := J1.at 2
  have c3 : W2.cell? ⟨w.heap.size, 3, none⟩ = some (.int .u64 0) := J1.at 3
  have c4 : W2.cell? ⟨w.heap.size, 4, none⟩ = some (.int .i64 x2) := J1.at 4
  have c5 : W2.cell? ⟨w.heap.size, 5, none⟩ = some (.bool mr) := J1.at 5
  have c6 : W2.cell? ⟨w.heap.size, 6, none⟩ = some (.int .i64 fl) := J1.at 6
  have d0 : W2.cell? ⟨w.heap.size + 1, 0, none⟩ = some (.int .i64 0) := J2.at 0
  have d1 : W2.cell? ⟨w.heap.size + 1, 1, none⟩ = some (.bool false) := J2.at 1
  have d2 : W2.cell? ⟨w.heap.size + 1, 2, none⟩ = some (.int .u64 0) := J2.at 2
  have d3 : W2.cell? ⟨w.heap.size + 1, 3, none⟩ = some (.int .u64 0) := J2.at 3
  have d4 : W2.cell? ⟨w.heap.size + 1, 4, none⟩ = some (.int .i64 0) := J2.at 4
  have d5 : W2.cell? ⟨w.heap.size + 1, 5, none⟩ = some (.bool false) := J2.at 5
  have d6 : W2.cell? ⟨w.heap.size + 1, 6, none⟩ = some (.int .i64 0) := J2.at 6
  have f0 := J2.free 0
  have f1 := J2.free 1
  have f2 := J2.free 2
  have f3 := J2.free 3
  have f4 := J2.free 4
  have f5 := J2.free 5
  have f6 := J2.free 6
  go_wp2
  have JF : Blk (((((((W2.setCell ⟨w.heap.size + 1, 0, none⟩ (.int .i64 2)).setCell ⟨w.heap.size + 1, 1, none⟩ (.bool g)).setCell ⟨w.heap.size + 1, 2, none⟩ (.int .u64 H)).setCell ⟨w.heap.size + 1, 3, none⟩ (.int .u64 0)).setCell ⟨w.heap.size + 1, 4, none⟩ (.int .i64 x2)).setCell ⟨w.heap.size + 1, 5, none⟩ (.bool mr)).setCell ⟨w.heap.size + 1, 6, none⟩ (.int .i64 fl)) (w.heap.size + 1) #[.int .i64 2, .bool g, .int .u64 H, .int .u64 0, .int .i64 x2, .bool mr, .int .i64 fl] 85 := (blk_set (blk_set (blk_set (blk_set (blk_set (blk_set (blk_set J2)))))))
  have F0 : (((((((W2.setCell ⟨w.heap.size + 1, 0, none⟩ (.int .i64 2)).setCell ⟨w.heap.size + 1, 1, none⟩ (.bool g)).setCell ⟨w.heap.size + 1, 2, none⟩ (.int .u64 H)).setCell ⟨w.heap.size + 1, 3, none⟩ (.int .u64 0)).setCell ⟨w.heap.size + 1, 4, none⟩ (.int .i64 x2)).setCell ⟨w.heap.size + 1, 5, none⟩ (.bool mr)).setCell ⟨w.heap.size + 1, 6, none⟩ (.int .i64 fl)).cell? ⟨w.heap.size + 1, 0, none⟩ = some (.int .i64 2) := JF.at 0
  have F1 : (((((((W2.setCell ⟨w.heap.size + 1, 0, none⟩ (.int .i64 2)).setCell ⟨w.heap.size + 1, 1, none⟩ (.bool g)).setCell ⟨w.heap.size + 1, 2, none⟩ (.int .u64 H)).setCell ⟨w.heap.size + 1, 3, none⟩ (.int .u64 0)).setCell ⟨w.heap.size + 1, 4, none⟩ (.int .i64 x2)).setCell ⟨w.heap.size + 1, 5, none⟩ (.bool mr)).setCell ⟨w.heap.size + 1, 6, none⟩ (.int .i64 fl)).cell? ⟨w.heap.size + 1, 1, none⟩ = some (.bool g) := JF.at 1
  have F2 : (((((((W2.setCell ⟨w.heap.size + 1, 0, none⟩ (.int .i64 2)).setCell ⟨w.heap.size + 1, 1, none⟩ (.bool g)).setCell ⟨w.heap.size + 1, 2, none⟩ (.int .u64 H)).setCell ⟨w.heap.size + 1, 3, none⟩ (.int .u64 0)).setCell ⟨w.heap.size + 1, 4, none⟩ (.int .i64 x2)).setCell ⟨w.heap.size + 1, 5, none⟩ (.bool mr)).setCell ⟨w.heap.size + 1, 6, none⟩ (.int .i64 fl)).cell? ⟨w.heap.size + 1, 2, none⟩ = some (.int .u64 H) := JF.at 2
  have F3 : (((((((W2.setCell ⟨w.heap.size + 1, 0, none⟩ (.int .i64 2)).setCell ⟨w.heap.size + 1, 1, none⟩ (.bool g)).setCell ⟨w.heap.size + 1, 2, none⟩ (.int .u64 H)).setCell ⟨w.heap.size + 1, 3, none⟩ (.int .u64 0)).setCell ⟨w.heap.size + 1, 4, none⟩ (.int .i64 x2)).setCell ⟨w.heap.size + 1, 5, none⟩ (.bool mr)).setCell ⟨w.heap.size + 1, 6, none⟩ (.int .i64 fl)).cell? ⟨w.heap.size + 1, 3, none⟩ = some (.int .u64 0) := JF.at 3
  have F4 : (((((((W2.setCell ⟨w.heap.size + 1, 0, none⟩ (.int .i64 2)).setCell ⟨w.heap.size + 1, 1, none⟩ (.bool g)).setCell ⟨w.heap.size + 1, 2, none⟩ (.int .u64 H)).setCell ⟨w.heap.size + 1, 3, none⟩ (.int .u64 0)).setCell ⟨w.heap.size + 1, 4, none⟩ (.int .i64 x2)).setCell ⟨w.heap.size + 1, 5, none⟩ (.bool mr)).setCell ⟨w.heap.size + 1, 6, none⟩ (.int .i64 fl)).cell? ⟨w.heap.size + 1, 4, none⟩ = some (.int .i64 x2) := JF.at 4
  have F5 : (((((((W2.setCell ⟨w.heap.size + 1, 0, none⟩ (.int .i64 2)).setCell ⟨w.heap.size + 1, 1, none⟩ (.bool g)).setCell ⟨w.heap.size + 1, 2, none⟩ (.int .u64 H)).setCell ⟨w.heap.size + 1, 3, none⟩ (.int .u64 0)).setCell ⟨w.heap.size + 1, 4, none⟩ (.int .i64 x2)).setCell ⟨w.heap.size + 1, 5, none⟩ (.bool mr)).setCell ⟨w.heap.size + 1, 6, none⟩ (.int .i64 fl)).cell? ⟨w.heap.size + 1, 5, none⟩ = some (.bool mr) := JF.at 5
  have F6 : (((((((W2.setCell ⟨w.heap.size + 1, 0, none⟩ (.int .i64 2)).setCell ⟨w.heap.size + 1, 1, none⟩ (.bool g)).setCell ⟨w.heap.size + 1, 2, none⟩ (.int .u64 H)).setCell ⟨w.heap.size + 1, 3, none⟩ (.int .u64 0)).setCell ⟨w.heap.size + 1, 4, none⟩ (.int .i64 x2)).setCell ⟨w.heap.size + 1, 5, none⟩ (.bool mr)).setCell ⟨w.heap.size + 1, 6, none⟩ (.int .i64 fl)).cell? ⟨w.heap.size + 1, 6, none⟩ = some (.int .i64 fl) := JF.at 6
  exact bodyPost_ret (v := .agg #[.int .i64 2, .bool g, .int .u64 H, .int .u64 0, .int .i64 x2, .bool mr, .int .i64 fl]) (by simp [results, Try.results80, go_sem, F0, F1, F2, F3, F4, F5, F6]) rfl ⟨rfl, (bel_set (bel_set (bel_set (bel_set (bel_set (bel_set (bel_set pr2 (Nat.le_succ _)) (Nat.le_succ _)) (Nat.le_succ _)) (Nat.le_succ _)) (Nat.le_succ _)) (Nat.le_succ _)) (Nat.le_succ _))⟩
end Go.Proofs.Ytfpmegfdopnnpaa
