import Derived.Test.YtfalncbcomlelaaGreatDoorEr9
import Derived.Test.YtfalncbcomlelaaGreatDoorMul3
import Derived.Test.YtfalncbcomlelaaGreatDoorSa1
namespace Go.Proofs.YtfalncbcomlelaaGreatDoor.Mo
open Go.RowKit Dc Tn

/-- A whole number of the program's, by its value. -/
def Nn (x : World) (a : Option Addr) (l c : Nat) (N : Int) : Prop := ∃ xs, Rd x (.slice a l c) xs ∧ Nm xs ∧ val xs = N
theorem Nn.grow {x x' : World} {a : Option Addr} {l c : Nat} {N : Int} (h : Nn x a l c N) (b : Below x.heap.size x x') : Nn x' a l c N := by
  obtain ⟨xs, r, n, v⟩ := h
  exact ⟨xs, r.grow b, n, v⟩
theorem Nn.nonneg {x : World} {a : Option Addr} {l c : Nat} {N : Int} (h : Nn x a l c N) : 0 ≤ N := by
  obtain ⟨xs, r, n, rfl⟩ := h
  exact val_nonneg r.1
theorem Nn.box {x : World} {a : Option Addr} {l c n : Nat} {N : Int} {u : Value} {b' : Option Addr} {l' c' : Nat} (h : Nn x a l c N) (K : Bx x n (.slice b' l' c')) : Nn (x.setCell ⟨n, 0, none⟩ u) a l c N := by
  obtain ⟨xs, r, m, v⟩ := h
  exact ⟨xs, r.box K, m, v⟩
theorem Nn.putF {w : World} {n : Nat} {a : Option Addr} {l c : Nat} {N : Int} {x y z : Value} {g : Bool} {a1 a2 : Option Addr} {n1 c1 n2 c2 : Nat} (h : Nn w a l c N) (R : Rb w n (.bool g) (.slice a1 n1 c1) (.slice a2 n2 c2)) : Nn (((w.setCell ⟨n, 0, none⟩ x).setCell ⟨n, 1, none⟩ y).setCell ⟨n, 2, none⟩ z) a l c N := by
  obtain ⟨xs, r, m, v⟩ := h
  exact ⟨xs, Rd.putF r R, m, v⟩
/-- A value that is such a number. -/
def NV (N : Int) (t : Value) (x : World) : Prop := ∃ a l c, t = .agg #[.slice a l c] ∧ Nn x a l c N
theorem NV.grow {N : Int} {t : Value} {x x' : World} (h : NV N t x) (b : Below x.heap.size x x') : NV N t x' := by
  obtain ⟨a, l, c, e, h⟩ := h
  exact ⟨a, l, c, e, h.grow b⟩
theorem len_of {xs : List Int} {n : Nat} (h : Wd xs) (k : Nm xs) (v : val xs < pw n) : xs.length ≤ n := by
  by_cases e : xs = []
  · subst e; simp
  · have := val_low h k e
    by_cases c : xs.length ≤ n
    · exact c
    · have := pw_mono (show n ≤ xs.length - 1 by omega)
      omega
theorem GCD_n {a1 a2 : Option Addr} {l1 c1 l2 c2 : Nat} {A B : Int} {x : World} (h1 : Nn x a1 l1 c1 A) (h2 : Nn x a2 l2 c2 B) {m : Nat} (hA : A < pw m) (hB : B < pw m) (hm : m ≤ 1000000) :
    Calls Tryz.prog 67 #[.agg #[.slice a1 l1 c1], .agg #[.slice a2 l2 c2]] x fun e w' => ∃ a l c, e = .returned (.agg #[.slice a l c]) ∧ Nn w' a l c (Int.gcd A B) ∧ Below x.heap.size x w' := by
  obtain ⟨xs, r1, n1, rfl⟩ := h1
  obtain ⟨ys, r2, n2, rfl⟩ := h2
  have := len_of r1.1 n1 hA
  have := len_of r2.1 n2 hB
  refine (GCD_any _ _ xs ys x r1 r2 n1 n2 (by omega) (by omega)).mono ?_
  rintro e w' ⟨r, zs, rfl, hr, hn, hv, b⟩
  obtain ⟨a, l, c, rfl⟩ := hr.shape
  exact ⟨a, l, c, rfl, ⟨zs, hr, hn, hv⟩, b⟩
theorem by_n {a1 a2 : Option Addr} {l1 c1 l2 c2 : Nat} {A B : Int} {x : World} (h1 : Nn x a1 l1 c1 A) (h2 : Nn x a2 l2 c2 B) {m : Nat} (hA : A < pw m) (hB : 0 < B) (hm : m ≤ 1000000) :
    Calls Tryz.prog 77 #[.agg #[.slice a1 l1 c1], .agg #[.slice a2 l2 c2]] x fun e w' => ∃ a l c, e = .returned (.agg #[.slice a l c]) ∧ Nn w' a l c (A / B) ∧ Below x.heap.size x w' := by
  obtain ⟨xs, r1, n1, rfl⟩ := h1
  obtain ⟨ys, r2, n2, rfl⟩ := h2
  have := len_of r1.1 n1 hA
  refine (by_any _ _ xs ys x r1 r2 n1 n2 hB (by omega)).mono ?_
  rintro e w' ⟨r, zs, rfl, hr, hn, hv, b⟩
  obtain ⟨a, l, c, rfl⟩ := hr.shape
  exact ⟨a, l, c, rfl, ⟨zs, hr, hn, hv⟩, b⟩
theorem IsZero_n {a : Option Addr} {l c : Nat} {A : Int} {x : World} (h : Nn x a l c A) :
    Calls Tryz.prog 42 #[.agg #[.slice a l c]] x fun e w' => e = .returned (.bool (decide (A = 0))) ∧ Below x.heap.size x w' := by
  obtain ⟨xs, r, n, rfl⟩ := h
  exact IsZero_any _ xs x r n
/-- Words that do not lie in block n. -/
def Off (a : Option Addr) (l n : Nat) : Prop := ∀ b o, 0 < l → a = some ⟨b, o, none⟩ → b ≠ n
theorem Nn.off {w : World} {a : Option Addr} {l c n : Nat} {N : Int} {cs : Array Value} {t : TypeId} (h : Nn w a l c N) (K : Blk w n cs t) (hc : ∀ (i : Nat) k z, cs[i]? ≠ some (.int k z)) : Off a l n := by
  obtain ⟨xs, ⟨h1, a', c', e, _, _, h5⟩, _, _⟩ := h
  obtain ⟨rfl, rfl, rfl⟩ : a = a' ∧ l = xs.length ∧ c = c' := by injection e with e1 e2 e3; exact ⟨e1, e2, e3⟩
  rintro b o l0 rfl rfl
  obtain ⟨b', o', e', cc⟩ := h5 l0
  obtain ⟨rfl, rfl⟩ : b = b' ∧ o = o' := by injection e' with e'; injection e' with e1 e2; exact ⟨e1, e2⟩
  have h0 := cc 0 l0
  rw [K.at] at h0
  exact hc _ _ _ h0
theorem Nn.set {w : World} {a : Option Addr} {l c n : Nat} {N : Int} (h : Nn w a l c N) (f : Off a l n) (i : Nat) (v : Value) : Nn (w.setCell ⟨n, i, none⟩ v) a l c N := by
  obtain ⟨xs, ⟨h1, a', c', e, h2, h3, h5⟩, hn, hv⟩ := h
  obtain ⟨rfl, rfl, rfl⟩ : a = a' ∧ l = xs.length ∧ c = c' := by injection e with e1 e2 e3; exact ⟨e1, e2, e3⟩
  refine ⟨xs, ⟨h1, a, c, rfl, h2, h3, fun l0 => ?_⟩, hn, hv⟩
  obtain ⟨b, o, rfl, cc⟩ := h5 l0
  refine ⟨b, o, rfl, fun j hj => ?_⟩
  have := f b o l0 rfl
  rw [World.cell?_setCell_other _ _ _ _ (by simp; try omega)]
  exact cc j hj
theorem Nn.drew {x : World} {a : Option Addr} {l c : Nat} {N : Int} (h : Nn x a l c N) : Nn x.drew a l c N := by
  obtain ⟨xs, r, n, v⟩ := h
  exact ⟨xs, Rd.drew r, n, v⟩
theorem Add_n {P1 P2 : Option Addr} {M1 C1 M2 C2 : Nat} {A B : Int} {x : World} (h1 : Nn x P1 M1 C1 A) (h2 : Nn x P2 M2 C2 B) {m : Nat} (hA : A < pw m) (hB : B < pw m) (hm : m ≤ 1000000) :
    Calls Tryz.prog 52 #[.agg #[.slice P1 M1 C1], .agg #[.slice P2 M2 C2]] x fun e w' => ∃ a l c, e = .returned (.agg #[.slice a l c]) ∧ Nn w' a l c (A + B) ∧ Below x.heap.size x w' := by
  obtain ⟨xs, r1, n1, rfl⟩ := h1
  obtain ⟨ys, r2, n2, rfl⟩ := h2
  have := len_of r1.1 n1 hA
  have := len_of r2.1 n2 hB
  refine (Add_any _ _ xs ys x r1 r2 (by omega) (by omega)).mono ?_
  rintro e w' ⟨r, zs, rfl, hr, hn, hv, b⟩
  obtain ⟨a, l, c, rfl⟩ := hr.shape
  exact ⟨a, l, c, rfl, ⟨zs, hr, hn, hv⟩, b⟩
theorem Sub_n {P1 P2 : Option Addr} {M1 C1 M2 C2 : Nat} {A B : Int} {x : World} (h1 : Nn x P1 M1 C1 A) (h2 : Nn x P2 M2 C2 B) {m : Nat} (hA : A < pw m) (hB : B < pw m) (hm : m ≤ 1000000) (hBA : B ≤ A) :
    Calls Tryz.prog 110 #[.agg #[.slice P1 M1 C1], .agg #[.slice P2 M2 C2]] x fun e w' => ∃ a l c, e = .returned (.agg #[.slice a l c]) ∧ Nn w' a l c (A - B) ∧ Below x.heap.size x w' := by
  obtain ⟨xs, r1, n1, rfl⟩ := h1
  obtain ⟨ys, r2, n2, rfl⟩ := h2
  have := len_of r1.1 n1 hA
  have := len_of r2.1 n2 hB
  refine (Sub_any _ _ xs ys x r1 r2 n2 hBA (by omega)).mono ?_
  rintro e w' ⟨r, zs, rfl, hr, hn, hv, b⟩
  obtain ⟨a, l, c, rfl⟩ := hr.shape
  exact ⟨a, l, c, rfl, ⟨zs, hr, hn, hv⟩, b⟩
theorem Cmp_n {P1 P2 : Option Addr} {M1 C1 M2 C2 : Nat} {A B : Int} {x : World} (h1 : Nn x P1 M1 C1 A) (h2 : Nn x P2 M2 C2 B) {m : Nat} (hA : A < pw m) (hm : m ≤ 1000000) :
    Calls Tryz.prog 61 #[.agg #[.slice P1 M1 C1], .agg #[.slice P2 M2 C2]] x fun e w' => e = .returned (.int .i64 (cmp3 A B)) ∧ Below x.heap.size x w' := by
  obtain ⟨xs, r1, n1, rfl⟩ := h1
  obtain ⟨ys, r2, n2, rfl⟩ := h2
  have := len_of r1.1 n1 hA
  exact Cmp_any _ _ xs ys x r1 r2 n1 n2 (by omega)
theorem Bx.of {x : World} {X : Nat} {v : Value} {t : TypeId} (h : Blk x X #[v] t) : Bx x X v := ⟨h.at 0, h.free 0, t, h⟩
end Go.Proofs.YtfalncbcomlelaaGreatDoor.Mo
