import Derived.Test.YtidcjdncfmncfaaGreatDoorPart17
import Derived.Test.YtidcjdncfmncfaaGreatDoorPart14
import Derived.Test.YtidcjdncfmncfaaGreatDoorPart12
import Derived.Test.YtidcjdncfmncfaaGreatDoorPart04

namespace Go.Proofs.YtidcjdncfmncfaaGreatDoor.Mo
open Go.RowKit Dc Tn

theorem word_val {xs : List Int} (h : Wd xs) (hv : val xs < 18446744073709551616) : nth xs 0 = val xs := by
  cases xs with
  | nil => simp [nth, val]
  | cons x xs =>
    have h1 : Wd xs := fun y hy => h y (List.mem_cons_of_mem _ hy)
    have := val_nonneg h1
    have hx := (nth_bd h 0).1
    simp only [val, nth] at *
    simp at *
    omega
set_option maxHeartbeats 1600000 in
set_option maxRecDepth 100000 in
theorem pennies_any (g : Bool) (v1 v2 : Value) (xs : List Int) (w : World) (h1 : Rd w v1 xs) (n1 : Nm xs) (lx : xs.length ≤ 1000000) (hs : ∃ a l c, v2 = .slice a l c) :
    Calls Tryz.prog 29 #[.agg #[.bool g, v1, v2]] w fun e w' => e = .returned (if val xs ≤ 1000000000000000 then .tuple #[.int .i64 (if g = true then -val xs else val xs), .int .i64 0] else .tuple #[.int .i64 0, .int .i64 6]) ∧ Below w.heap.size w w' := by
  have H1 : Hid (Rd w v1 xs) := h1
  obtain ⟨a1, m1, c1, rfl⟩ := h1.shape
  obtain ⟨a2, m2, c2, rfl⟩ := hs
  clear h1
  have x0 := val_nonneg H1.out.1
  have K0 := Rb.new w (.bool g) (.slice a1 m1 c1) (.slice a2 m2 c2) 65
  have pr : Below w.heap.size w (w.alloc (.cells #[.bool g, .slice a1 m1 c1, .slice a2 m2 c2] 65)) := (Below.refl _ _).alloc (Nat.le_refl _) _
  obtain ⟨cm, hcm⟩ : ∃ q, cmp3 (val xs) 1000000000000000 = q := ⟨_, rfl⟩
  have A1 : ∀ x, Calls Tryz.prog 81 #[.int .u64 1000000000000000] x fun e w' => ∃ a l c ts, e = .returned (.agg #[.slice a l c]) ∧ Rd w' (.slice a l c) ts ∧ Nm ts ∧ val ts = 1000000000000000 ∧ Below x.heap.size x w' := fun x => by
    refine (Of_any 1000000000000000 x (by decide) (by decide)).mono ?_
    rintro e w' ⟨r, ts, rfl, hr, hn, hv, bb⟩
    obtain ⟨a, l, c, rfl⟩ := hr.shape
    exact ⟨a, l, c, ts, rfl, hr, hn, hv, bb⟩
  have C : ∀ x a l c ts, Below w.heap.size w x → Rd x (.slice a l c) ts → Nm ts → val ts = 1000000000000000 → Calls Tryz.prog 80 #[.agg #[.slice a1 m1 c1], .agg #[.slice a l c]] x fun e w' => e = .returned (.int .i64 cm) ∧ Below x.heap.size x w' := fun x a l c ts b hr hn hv => by
    have := Cmp_any (.slice a1 m1 c1) (.slice a l c) xs ts x (H1.out.grow b) hr n1 hn (by omega)
    rw [hv, hcm] at this
    exact this
  by_cases hv : val xs ≤ 1000000000000000
  · rw [if_pos hv]
    have hc0 : ¬ (0 : Int) < cm := by rw [← hcm]; unfold cmp3; split <;> (try split) <;> omega
    have Wd1 : ∀ x, Below w.heap.size w x → Calls Tryz.prog 83 #[.agg #[.slice a1 m1 c1]] x fun e w' => e = .returned (.int .u64 (val xs)) ∧ Below x.heap.size x w' := fun x b => by
      have := lowest_any (.slice a1 m1 c1) xs x (H1.out.grow b) n1
      rw [word_val H1.out.1 (by omega)] at this
      exact this
    have Sg := fun x b => sign_any g (.slice a1 m1 c1) (.slice a2 m2 c2) xs x (H1.out.grow (w' := x) b) n1 ⟨_, _, _, rfl⟩
    obtain ⟨s, hs⟩ : ∃ s : Int, (if g = true then -1 else if val xs = 0 then 0 else 1) = s := ⟨_, rfl⟩
    rw [hs] at Sg
    have HS : Hid (s * val xs = if g = true then -val xs else val xs) := by
      show _ = _
      rw [← hs]
      cases g <;> simp
      by_cases hz : val xs = 0 <;> simp [hz]
    have s1 : s = -1 ∨ s = 0 ∨ s = 1 := by rw [← hs]; split <;> (try split) <;> simp
    obtain ⟨V, hV⟩ : ∃ V, val xs = V := ⟨_, rfl⟩
    rw [hV] at Wd1 hv x0 HS ⊢
    obtain ⟨T, hT⟩ : ∃ T, (if g = true then -V else V) = T := ⟨_, rfl⟩
    rw [hT] at HS ⊢
    clear hT
    have w1 : IntKind.i64.wrap V = V := IntWalk.i64_in _ (by omega)
    have w2 : IntKind.i64.wrap (s * V) = s * V := IntWalk.i64_in _ (by rcases s1 with rfl | rfl | rfl <;> omega)
    clear hs hV s1 hcm
    go_enter Tryz.func29, Tryz.ntmps29
    go_wp2_with fail
    generalize w.alloc (.cells #[.bool g, .slice a1 m1 c1, .slice a2 m2 c2] 65) = W at *
    have k0 := K0.c0
    have k1 := K0.c1
    have k2 := K0.c2
    go_cut [8] (fun c wc => c = .bool false ∧ Below W.heap.size W wc)
    case first =>
      go_region_held3 (fun x => x.cell? ⟨w.heap.size, 1, none⟩ = some (.slice a1 m1 c1)) (go_keep) (first
        | (go_at_call 81; refine (A1 _).mono ?_; rintro e x1 ⟨a7, l7, c7, ts, rfl, t1, t2, t3, b1⟩; have b1 := undrew b1; have p1 := (K0.grow b1).c1)
        | (go_at_call 80; refine (C _ _ _ _ ts (bel' pr b1) t1 t2 t3).mono ?_; rintro e x2 ⟨rfl, b2⟩; have b2 := bel' b1 b2; have p1 := (K0.grow b2).c1)
        | fail)
      all_goals
        go_wp2_with fail
        go_meet
        case rel => exact ⟨by simp [hc0], b2⟩
    case rest =>
      obtain ⟨rfl, b⟩ := hcut
      replace K0 := K0.grow b
      replace pr := bel' pr b
      clear k0 k1 k2 A1 C b
      have k0 := K0.c0
      have k1 := K0.c1
      have k2 := K0.c2
      go_wp2_with fail
      go_region_held3 (fun x => x.cell? ⟨w.heap.size, 0, none⟩ = some (.bool g) ∧ x.cell? ⟨w.heap.size, 1, none⟩ = some (.slice a1 m1 c1) ∧ x.cell? ⟨w.heap.size, 2, none⟩ = some (.slice a2 m2 c2)) (go_keep) (first
        | (go_at_call 82; refine (Sg _ pr.drew).mono ?_; rintro e x1 ⟨rfl, b1⟩; have b1 := undrew b1; have p0 := (K0.grow b1).c0; have p1 := (K0.grow b1).c1; have p2 := (K0.grow b1).c2)
        | (go_at_call 83; refine (Wd1 _ (bel' pr b1)).mono ?_; rintro e x2 ⟨rfl, b2⟩; have b2 := bel' b1 b2; have p0 := (K0.grow b2).c0; have p1 := (K0.grow b2).c1; have p2 := (K0.grow b2).c2)
        | fail)
      all_goals
        go_wp2
        exact bodyPost_ret (v := .tuple #[.int .i64 (s * V), .int .i64 0]) (by simp [results, Tryz.results29, go_sem]) rfl ⟨by rw [HS.out], bel' pr b2⟩
  · rw [if_neg hv]
    have hc0 : (0 : Int) < cm := by rw [← hcm]; unfold cmp3; split <;> (try split) <;> omega
    clear hcm
    go_enter Tryz.func29, Tryz.ntmps29
    go_wp2_with fail
    generalize w.alloc (.cells #[.bool g, .slice a1 m1 c1, .slice a2 m2 c2] 65) = W at *
    have k0 := K0.c0
    have k1 := K0.c1
    have k2 := K0.c2
    go_cut [8] (fun c wc => c = .bool true ∧ Below W.heap.size W wc)
    case first =>
      go_region_held3 (fun x => x.cell? ⟨w.heap.size, 1, none⟩ = some (.slice a1 m1 c1)) (go_keep) (first
        | (go_at_call 81; refine (A1 _).mono ?_; rintro e x1 ⟨a7, l7, c7, ts, rfl, t1, t2, t3, b1⟩; have b1 := undrew b1; have p1 := (K0.grow b1).c1)
        | (go_at_call 80; refine (C _ _ _ _ ts (bel' pr b1) t1 t2 t3).mono ?_; rintro e x2 ⟨rfl, b2⟩; have b2 := bel' b1 b2; have p1 := (K0.grow b2).c1)
        | fail)
      all_goals
        go_wp2_with fail
        go_meet
        case rel => exact ⟨by simp, b2⟩
    case rest =>
      obtain ⟨rfl, b⟩ := hcut
      go_wp2
      exact bodyPost_ret (v := .tuple #[.int .i64 0, .int .i64 6]) (by simp [results, Tryz.results29, go_sem]) rfl ⟨rfl, bel' pr b⟩
end Go.Proofs.YtidcjdncfmncfaaGreatDoor.Mo

namespace Go.Proofs.YtidcjdncfmncfaaGreatDoor.Mo
open Go.RowKit Dc Tn

/-- A whole number of the program's, by its value. -/
def Nn (x : World) (a : Option Addr) (l c : Nat) (N : Int) : Prop := ∃ xs, Rd x (.slice a l c) xs ∧ Nm xs ∧ val xs = N
theorem Nn.grow {x x' : World} {a : Option Addr} {l c : Nat} {N : Int} (h : Nn x a l c N) (b : Below x.heap.size x x') : Nn x' a l c N := by
  obtain ⟨xs, r, n, v⟩ := h
  exact ⟨xs, r.grow b, n, v⟩
theorem Nn.nonneg {x : World} {a : Option Addr} {l c : Nat} {N : Int} (h : Nn x a l c N) : 0 ≤ N := by
  obtain ⟨xs, r, n, rfl⟩ := h
  exact val_nonneg r.1
theorem Nn.box {x : World} {a : Option Addr} {l c n : Nat} {N : Int} {u : Value} {b' : Option Addr} {l' c' : Nat} (h : Nn x a l c N) (K : Bx x n (.slice b' l' c')) : Nn (x.setCell ⟨n, 0, none⟩ u) a l c N := by
  obtain ⟨xs, r, m, v⟩ := h
  exact ⟨xs, r.box K, m, v⟩
theorem Nn.putF {w : World} {n : Nat} {a : Option Addr} {l c : Nat} {N : Int} {x y z : Value} {g : Bool} {a1 a2 : Option Addr} {n1 c1 n2 c2 : Nat} (h : Nn w a l c N) (R : Rb w n (.bool g) (.slice a1 n1 c1) (.slice a2 n2 c2)) : Nn (((w.setCell ⟨n, 0, none⟩ x).setCell ⟨n, 1, none⟩ y).setCell ⟨n, 2, none⟩ z) a l c N := by
  obtain ⟨xs, r, m, v⟩ := h
  exact ⟨xs, Rd.putF r R, m, v⟩
/-- A value that is such a number. -/
def NV (N : Int) (t : Value) (x : World) : Prop := ∃ a l c, t = .agg #[.slice a l c] ∧ Nn x a l c N
theorem NV.grow {N : Int} {t : Value} {x x' : World} (h : NV N t x) (b : Below x.heap.size x x') : NV N t x' := by
  obtain ⟨a, l, c, e, h⟩ := h
  exact ⟨a, l, c, e, h.grow b⟩
theorem len_of {xs : List Int} {n : Nat} (h : Wd xs) (k : Nm xs) (v : val xs < pw n) : xs.length ≤ n := by
  by_cases e : xs = []
  · subst e; simp
  · have := val_low h k e
    by_cases c : xs.length ≤ n
    · exact c
    · have := pw_mono (show n ≤ xs.length - 1 by omega)
      omega
theorem GCD_n {a1 a2 : Option Addr} {l1 c1 l2 c2 : Nat} {A B : Int} {x : World} (h1 : Nn x a1 l1 c1 A) (h2 : Nn x a2 l2 c2 B) {m : Nat} (hA : A < pw m) (hB : B < pw m) (hm : m ≤ 1000000) :
    Calls Tryz.prog 78 #[.agg #[.slice a1 l1 c1], .agg #[.slice a2 l2 c2]] x fun e w' => ∃ a l c, e = .returned (.agg #[.slice a l c]) ∧ Nn w' a l c (Int.gcd A B) ∧ Below x.heap.size x w' := by
  obtain ⟨xs, r1, n1, rfl⟩ := h1
  obtain ⟨ys, r2, n2, rfl⟩ := h2
  have := len_of r1.1 n1 hA
  have := len_of r2.1 n2 hB
  refine (GCD_any _ _ xs ys x r1 r2 n1 n2 (by omega) (by omega)).mono ?_
  rintro e w' ⟨r, zs, rfl, hr, hn, hv, b⟩
  obtain ⟨a, l, c, rfl⟩ := hr.shape
  exact ⟨a, l, c, rfl, ⟨zs, hr, hn, hv⟩, b⟩
theorem by_n {a1 a2 : Option Addr} {l1 c1 l2 c2 : Nat} {A B : Int} {x : World} (h1 : Nn x a1 l1 c1 A) (h2 : Nn x a2 l2 c2 B) {m : Nat} (hA : A < pw m) (hB : 0 < B) (hm : m ≤ 1000000) :
    Calls Tryz.prog 85 #[.agg #[.slice a1 l1 c1], .agg #[.slice a2 l2 c2]] x fun e w' => ∃ a l c, e = .returned (.agg #[.slice a l c]) ∧ Nn w' a l c (A / B) ∧ Below x.heap.size x w' := by
  obtain ⟨xs, r1, n1, rfl⟩ := h1
  obtain ⟨ys, r2, n2, rfl⟩ := h2
  have := len_of r1.1 n1 hA
  refine (by_any _ _ xs ys x r1 r2 n1 n2 hB (by omega)).mono ?_
  rintro e w' ⟨r, zs, rfl, hr, hn, hv, b⟩
  obtain ⟨a, l, c, rfl⟩ := hr.shape
  exact ⟨a, l, c, rfl, ⟨zs, hr, hn, hv⟩, b⟩
/-- Numbers whose product is reached. -/
def MulOK (m n : Nat) : Prop := (m < 80 ∨ n < 80) ∧ m ≤ 1000000 ∧ n ≤ 1000000
theorem MulOK.le {m n m' n' : Nat} (h : MulOK m n) (a : m' ≤ m) (b : n' ≤ n) : MulOK m' n' := by
  unfold MulOK at *; omega
theorem Mul_n {a1 a2 : Option Addr} {l1 c1 l2 c2 : Nat} {A B : Int} {x : World} (h1 : Nn x a1 l1 c1 A) (h2 : Nn x a2 l2 c2 B) {m n : Nat} (hA : A < pw m) (hB : B < pw n) (hm : MulOK m n) :
    Calls Tryz.prog 86 #[.agg #[.slice a1 l1 c1], .agg #[.slice a2 l2 c2]] x fun e w' => ∃ a l c, e = .returned (.agg #[.slice a l c]) ∧ Nn w' a l c (A * B) ∧ Below x.heap.size x w' := by
  obtain ⟨xs, r1, n1, rfl⟩ := h1
  obtain ⟨ys, r2, n2, rfl⟩ := h2
  have k1 := len_of r1.1 n1 hA
  have k2 := len_of r2.1 n2 hB
  obtain ⟨q1, q2, q3⟩ := hm.le k1 k2
  refine (Mul_short _ _ xs ys x r1 r2 q1 (by omega) (by omega)).mono ?_
  rintro e w' ⟨r, zs, rfl, hr, hn, hv, b⟩
  obtain ⟨a, l, c, rfl⟩ := hr.shape
  exact ⟨a, l, c, rfl, ⟨zs, hr, hn, hv⟩, b⟩
theorem IsZero_n {a : Option Addr} {l c : Nat} {A : Int} {x : World} (h : Nn x a l c A) :
    Calls Tryz.prog 87 #[.agg #[.slice a l c]] x fun e w' => e = .returned (.bool (decide (A = 0))) ∧ Below x.heap.size x w' := by
  obtain ⟨xs, r, n, rfl⟩ := h
  exact IsZero_any _ xs x r n
end Go.Proofs.YtidcjdncfmncfaaGreatDoor.Mo
