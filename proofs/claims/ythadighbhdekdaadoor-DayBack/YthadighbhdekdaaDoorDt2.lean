import Derived.Test.YthadighbhdekdaaDoorDt1
import Derived.Test.YthadighbhdekdaaDoorDy3
import Derived.Test.YthadighbhdekdaaDoorShelf
import Derived.Lib.SmallJoins
import Derived.Laws.Strings
import Derived.Laws.Concat
import Derived.Deep.RegionWith
namespace Go.Proofs.YthadighbhdekdaaDoor.Dt
open Go.RowKit Go.Lib Go.Proofs.YthadighbhdekdaaDoor.Dy

/-- The table of powers of ten, as it lies; and that of the months' lengths. -/
def Gt (w : World) : Prop := Lib.TabIs Tryd.prog w "internal/strconv.uint64pow10" .u64 Lib.pow10Tab ∧ Gl w
theorem gTab : Tryd.prog.globalNamed "internal/strconv.uint64pow10" = some 3 := by kernel_rfl
theorem Gt.grow {w w' : World} (h : Gt w) (k : Below w.heap.size w w') : Gt w' := ⟨Go.Joins.var_stays gTab h.1 k (Nat.le_refl _), h.2.grow k⟩
theorem Gt.alloc {w : World} (h : Gt w) (o : Obj) : Gt (w.alloc o) := h.grow ((Below.refl _ _).alloc (Nat.le_refl _) o)
theorem Gt.drew {w : World} (h : Gt w) (n : Nat) : Gt (w.drewN n) := ⟨h.1, h.2.drew n⟩
/-- A text of these bytes. -/
def bs (l : List UInt8) : ByteArray := ⟨l.toArray⟩
theorem bs_size (l : List UInt8) : (bs l).size = l.length := by simp [bs, ByteArray.size]
theorem bs_add (a b : List UInt8) : bs a ++ bs b = bs (a ++ b) := by
  apply ByteArray.ext
  simp [bs]
theorem below_grow (w : World) (k : Nat) (os : Array Obj) : Below w.heap.size w (Go.Sort.grow (w.drewN k) os) := by
  refine ⟨rfl, rfl, rfl, by simp [Go.Sort.grow], fun i hi => ?_⟩
  simp only [Go.Sort.grow]
  exact Array.getElem?_append_left hi
theorem Itoa_nat (n : Nat) (hn : (n : Int) ≤ 9223372036854775807) (w : World) (G : Gt w) :
    Calls Tryd.prog 42 #[.int .i64 (n : Int)] w fun e w' => e = .returned (.string (bs (decDigits n))) ∧ Below w.heap.size w w' := by
  refine (Tryd.strconv_Itoa (n : Int) (by omega) hn w G.1).mono ?_
  rintro e w' ⟨rfl, k, os, rfl⟩
  refine ⟨?_, below_grow w k os⟩
  have : Lib.itoa (n : Int) = decDigits n := by unfold Lib.itoa; rw [if_neg (by omega)]; simp
  rw [this]
  rfl
set_option maxHeartbeats 800000 in
set_option maxRecDepth 100000 in
theorem padded_walk (n t S : Int) (T B : ByteArray) (z : Nat) (hz : T.size = z) (h1 : 1 ≤ z) (hx : T.extract 1 z = B) (e : IntKind.i64.wrap (t + n) = S) (w : World) (G : Gt w)
    (I : ∀ W, Gt W → Calls Tryd.prog 42 #[.int .i64 S] W fun e w' => e = .returned (.string T) ∧ Below W.heap.size W w') :
    Calls Tryd.prog 20 #[.int .i64 n, .int .i64 t] w fun e w' => e = .returned (.string B) ∧ Below w.heap.size w w' := by
  go_enter Tryd.func20, Tryd.ntmps20
  go_wp2_with (first
    | (go_at_call 42; refine (I _ G).mono ?_; rintro x w1 ⟨rfl, b1⟩)
    | fail)
  go_ret
  exact ⟨rfl, b1⟩
theorem padded4 (n : Nat) (h : n < 10000) (w : World) (G : Gt w) : Calls Tryd.prog 20 #[.int .i64 (n : Int), .int .i64 10000] w fun e w' => e = .returned (.string (bs (pad4 n))) ∧ Below w.heap.size w w' := by
  refine padded_walk n 10000 ((10000 + n : Nat) : Int) (bs (decDigits (10000 + n))) _ 5 (by rw [bs_size, dec5 n h]; rfl) (by omega) (by rw [dec5 n h]; rfl) (by rw [wrapI _ (by omega) (by omega)]; omega) w G (fun W GW => Itoa_nat (10000 + n) (by omega) W GW)
theorem padded2 (n : Nat) (h : n < 100) (w : World) (G : Gt w) : Calls Tryd.prog 20 #[.int .i64 (n : Int), .int .i64 100] w fun e w' => e = .returned (.string (bs (pad2 n))) ∧ Below w.heap.size w w' := by
  refine padded_walk n 100 ((100 + n : Nat) : Int) (bs (decDigits (100 + n))) _ 3 (by rw [bs_size, dec3 n h]; rfl) (by omega) (by rw [dec3 n h]; rfl) (by rw [wrapI _ (by omega) (by omega)]; omega) w G (fun W GW => Itoa_nat (100 + n) (by omega) W GW)
/-- The text of a date. -/
def txt (y m d : Int) : List UInt8 := pad4 y.toNat ++ [45] ++ pad2 m.toNat ++ [45] ++ pad2 d.toNat
end Go.Proofs.YthadighbhdekdaaDoor.Dt
