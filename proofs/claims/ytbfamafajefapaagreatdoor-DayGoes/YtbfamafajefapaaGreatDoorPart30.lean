import Derived.Test.YtbfamafajefapaaGreatDoorPart29
import Derived.Test.YtbfamafajefapaaGreatDoorPart24
import Derived.Test.YtbfamafajefapaaGreatDoorPart18
import Derived.Test.YtbfamafajefapaaGreatDoorPart05
import Derived.Deep.DeepCutAuto

namespace Go.Proofs.YtbfamafajefapaaGreatDoor.Mo
open Go.RowKit Dc Tn

theorem word_val {xs : List Int} (h : Wd xs) (hv : val xs < 18446744073709551616) : nth xs 0 = val xs := by
  cases xs with
  | nil => simp [nth, val]
  | cons x xs =>
    have h1 : Wd xs := fun y hy => h y (List.mem_cons_of_mem _ hy)
    have := val_nonneg h1
    have hx := (nth_bd h 0).1
    simp only [val, nth] at *
    simp at *
    omega
set_option maxHeartbeats 1600000 in
set_option maxRecDepth 100000 in
theorem pennies_any (g : Bool) (v1 v2 : Value) (xs : List Int) (w : World) (h1 : Rd w v1 xs) (n1 : Nm xs) (lx : xs.length ≤ 1000000) (hs : ∃ a l c, v2 = .slice a l c) :
    Calls Tryz.prog 34 #[.agg #[.bool g, v1, v2]] w fun e w' => e = .returned (if val xs ≤ 1000000000000000 then .tuple #[.int .i64 (if g = true then -val xs else val xs), .int .i64 0] else .tuple #[.int .i64 0, .int .i64 6]) ∧ Below w.heap.size w w' := by
  have H1 : Hid (Rd w v1 xs) := h1
  obtain ⟨a1, m1, c1, rfl⟩ := h1.shape
  obtain ⟨a2, m2, c2, rfl⟩ := hs
  clear h1
  have x0 := val_nonneg H1.out.1
  have K0 := Rb.new w (.bool g) (.slice a1 m1 c1) (.slice a2 m2 c2) 73
  have pr : Below w.heap.size w (w.alloc (.cells #[.bool g, .slice a1 m1 c1, .slice a2 m2 c2] 73)) := (Below.refl _ _).alloc (Nat.le_refl _) _
  obtain ⟨cm, hcm⟩ : ∃ q, cmp3 (val xs) 1000000000000000 = q := ⟨_, rfl⟩
  have A1 : ∀ x, Calls Tryz.prog 89 #[.int .u64 1000000000000000] x fun e w' => ∃ a l c ts, e = .returned (.agg #[.slice a l c]) ∧ Rd w' (.slice a l c) ts ∧ Nm ts ∧ val ts = 1000000000000000 ∧ Below x.heap.size x w' := fun x => by
    refine (Of_any 1000000000000000 x (by decide) (by decide)).mono ?_
    rintro e w' ⟨r, ts, rfl, hr, hn, hv, bb⟩
    obtain ⟨a, l, c, rfl⟩ := hr.shape
    exact ⟨a, l, c, ts, rfl, hr, hn, hv, bb⟩
  have C : ∀ x a l c ts, Below w.heap.size w x → Rd x (.slice a l c) ts → Nm ts → val ts = 1000000000000000 → Calls Tryz.prog 88 #[.agg #[.slice a1 m1 c1], .agg #[.slice a l c]] x fun e w' => e = .returned (.int .i64 cm) ∧ Below x.heap.size x w' := fun x a l c ts b hr hn hv => by
    have := Cmp_any (.slice a1 m1 c1) (.slice a l c) xs ts x (H1.out.grow b) hr n1 hn (by omega)
    rw [hv, hcm] at this
    exact this
  by_cases hv : val xs ≤ 1000000000000000
  · rw [if_pos hv]
    have hc0 : ¬ (0 : Int) < cm := by rw [← hcm]; unfold cmp3; split <;> (try split) <;> omega
    have Wd1 : ∀ x, Below w.heap.size w x → Calls Tryz.prog 91 #[.agg #[.slice a1 m1 c1]] x fun e w' => e = .returned (.int .u64 (val xs)) ∧ Below x.heap.size x w' := fun x b => by
      have := lowest_any (.slice a1 m1 c1) xs x (H1.out.grow b) n1
      rw [word_val H1.out.1 (by omega)] at this
      exact this
    have Sg := fun x b => sign_any g (.slice a1 m1 c1) (.slice a2 m2 c2) xs x (H1.out.grow (w' := x) b) n1 ⟨_, _, _, rfl⟩
    obtain ⟨s, hs⟩ : ∃ s : Int, (if g = true then -1 else if val xs = 0 then 0 else 1) = s := ⟨_, rfl⟩
    rw [hs] at Sg
    have HS : Hid (s * val xs = if g = true then -val xs else val xs) := by
      show _ = _
      rw [← hs]
      cases g <;> simp
      by_cases hz : val xs = 0 <;> simp [hz]
    have s1 : s = -1 ∨ s = 0 ∨ s = 1 := by rw [← hs]; split <;> (try split) <;> simp
    obtain ⟨V, hV⟩ : ∃ V, val xs = V := ⟨_, rfl⟩
    rw [hV] at Wd1 hv x0 HS ⊢
    obtain ⟨T, hT⟩ : ∃ T, (if g = true then -V else V) = T := ⟨_, rfl⟩
    rw [hT] at HS ⊢
    clear hT
    have w1 : IntKind.i64.wrap V = V := IntWalk.i64_in _ (by omega)
    have w2 : IntKind.i64.wrap (s * V) = s * V := IntWalk.i64_in _ (by rcases s1 with rfl | rfl | rfl <;> omega)
    clear hs hV s1 hcm
    go_enter Tryz.func34, Tryz.ntmps34
    go_wp2_with fail
    generalize w.alloc (.cells #[.bool g, .slice a1 m1 c1, .slice a2 m2 c2] 73) = W at *
    have k0 := K0.c0
    have k1 := K0.c1
    have k2 := K0.c2
    go_cut [8] (fun c wc => c = .bool false ∧ Below W.heap.size W wc)
    case first =>
      go_region_held3 (fun x => x.cell? ⟨w.heap.size, 1, none⟩ = some (.slice a1 m1 c1)) (go_keep) (first
        | (go_at_call 89; refine (A1 _).mono ?_; rintro e x1 ⟨a7, l7, c7, ts, rfl, t1, t2, t3, b1⟩; have b1 := undrew b1; have p1 := (K0.grow b1).c1)
        | (go_at_call 88; refine (C _ _ _ _ ts (bel' pr b1) t1 t2 t3).mono ?_; rintro e x2 ⟨rfl, b2⟩; have b2 := bel' b1 b2; have p1 := (K0.grow b2).c1)
        | fail)
      all_goals
        go_wp2_with fail
        go_meet
        case rel => exact ⟨by simp [hc0], b2⟩
    case rest =>
      obtain ⟨rfl, b⟩ := hcut
      replace K0 := K0.grow b
      replace pr := bel' pr b
      clear k0 k1 k2 A1 C b
      have k0 := K0.c0
      have k1 := K0.c1
      have k2 := K0.c2
      go_wp2_with fail
      go_region_held3 (fun x => x.cell? ⟨w.heap.size, 0, none⟩ = some (.bool g) ∧ x.cell? ⟨w.heap.size, 1, none⟩ = some (.slice a1 m1 c1) ∧ x.cell? ⟨w.heap.size, 2, none⟩ = some (.slice a2 m2 c2)) (go_keep) (first
        | (go_at_call 90; refine (Sg _ pr.drew).mono ?_; rintro e x1 ⟨rfl, b1⟩; have b1 := undrew b1; have p0 := (K0.grow b1).c0; have p1 := (K0.grow b1).c1; have p2 := (K0.grow b1).c2)
        | (go_at_call 91; refine (Wd1 _ (bel' pr b1)).mono ?_; rintro e x2 ⟨rfl, b2⟩; have b2 := bel' b1 b2; have p0 := (K0.grow b2).c0; have p1 := (K0.grow b2).c1; have p2 := (K0.grow b2).c2)
        | fail)
      all_goals
        go_wp2
        exact bodyPost_ret (v := .tuple #[.int .i64 (s * V), .int .i64 0]) (by simp [results, Tryz.results34, go_sem]) rfl ⟨by rw [HS.out], bel' pr b2⟩
  · rw [if_neg hv]
    have hc0 : (0 : Int) < cm := by rw [← hcm]; unfold cmp3; split <;> (try split) <;> omega
    clear hcm
    go_enter Tryz.func34, Tryz.ntmps34
    go_wp2_with fail
    generalize w.alloc (.cells #[.bool g, .slice a1 m1 c1, .slice a2 m2 c2] 73) = W at *
    have k0 := K0.c0
    have k1 := K0.c1
    have k2 := K0.c2
    go_cut [8] (fun c wc => c = .bool true ∧ Below W.heap.size W wc)
    case first =>
      go_region_held3 (fun x => x.cell? ⟨w.heap.size, 1, none⟩ = some (.slice a1 m1 c1)) (go_keep) (first
        | (go_at_call 89; refine (A1 _).mono ?_; rintro e x1 ⟨a7, l7, c7, ts, rfl, t1, t2, t3, b1⟩; have b1 := undrew b1; have p1 := (K0.grow b1).c1)
        | (go_at_call 88; refine (C _ _ _ _ ts (bel' pr b1) t1 t2 t3).mono ?_; rintro e x2 ⟨rfl, b2⟩; have b2 := bel' b1 b2; have p1 := (K0.grow b2).c1)
        | fail)
      all_goals
        go_wp2_with fail
        go_meet
        case rel => exact ⟨by simp, b2⟩
    case rest =>
      obtain ⟨rfl, b⟩ := hcut
      go_wp2
      exact bodyPost_ret (v := .tuple #[.int .i64 0, .int .i64 6]) (by simp [results, Tryz.results34, go_sem]) rfl ⟨rfl, bel' pr b⟩
end Go.Proofs.YtbfamafajefapaaGreatDoor.Mo

namespace Go.Proofs.YtbfamafajefapaaGreatDoor.Mo
open Go.RowKit Dc Tn

/-- A whole number of the program's, by its value. -/
def Nn (x : World) (a : Option Addr) (l c : Nat) (N : Int) : Prop := ∃ xs, Rd x (.slice a l c) xs ∧ Nm xs ∧ val xs = N
theorem Nn.grow {x x' : World} {a : Option Addr} {l c : Nat} {N : Int} (h : Nn x a l c N) (b : Below x.heap.size x x') : Nn x' a l c N := by
  obtain ⟨xs, r, n, v⟩ := h
  exact ⟨xs, r.grow b, n, v⟩
theorem Nn.nonneg {x : World} {a : Option Addr} {l c : Nat} {N : Int} (h : Nn x a l c N) : 0 ≤ N := by
  obtain ⟨xs, r, n, rfl⟩ := h
  exact val_nonneg r.1
theorem Nn.box {x : World} {a : Option Addr} {l c n : Nat} {N : Int} {u : Value} {b' : Option Addr} {l' c' : Nat} (h : Nn x a l c N) (K : Bx x n (.slice b' l' c')) : Nn (x.setCell ⟨n, 0, none⟩ u) a l c N := by
  obtain ⟨xs, r, m, v⟩ := h
  exact ⟨xs, r.box K, m, v⟩
theorem Nn.putF {w : World} {n : Nat} {a : Option Addr} {l c : Nat} {N : Int} {x y z : Value} {g : Bool} {a1 a2 : Option Addr} {n1 c1 n2 c2 : Nat} (h : Nn w a l c N) (R : Rb w n (.bool g) (.slice a1 n1 c1) (.slice a2 n2 c2)) : Nn (((w.setCell ⟨n, 0, none⟩ x).setCell ⟨n, 1, none⟩ y).setCell ⟨n, 2, none⟩ z) a l c N := by
  obtain ⟨xs, r, m, v⟩ := h
  exact ⟨xs, Rd.putF r R, m, v⟩
/-- A value that is such a number. -/
def NV (N : Int) (t : Value) (x : World) : Prop := ∃ a l c, t = .agg #[.slice a l c] ∧ Nn x a l c N
theorem NV.grow {N : Int} {t : Value} {x x' : World} (h : NV N t x) (b : Below x.heap.size x x') : NV N t x' := by
  obtain ⟨a, l, c, e, h⟩ := h
  exact ⟨a, l, c, e, h.grow b⟩
theorem len_of {xs : List Int} {n : Nat} (h : Wd xs) (k : Nm xs) (v : val xs < pw n) : xs.length ≤ n := by
  by_cases e : xs = []
  · subst e; simp
  · have := val_low h k e
    by_cases c : xs.length ≤ n
    · exact c
    · have := pw_mono (show n ≤ xs.length - 1 by omega)
      omega
theorem GCD_n {a1 a2 : Option Addr} {l1 c1 l2 c2 : Nat} {A B : Int} {x : World} (h1 : Nn x a1 l1 c1 A) (h2 : Nn x a2 l2 c2 B) {m : Nat} (hA : A < pw m) (hB : B < pw m) (hm : m ≤ 1000000) :
    Calls Tryz.prog 86 #[.agg #[.slice a1 l1 c1], .agg #[.slice a2 l2 c2]] x fun e w' => ∃ a l c, e = .returned (.agg #[.slice a l c]) ∧ Nn w' a l c (Int.gcd A B) ∧ Below x.heap.size x w' := by
  obtain ⟨xs, r1, n1, rfl⟩ := h1
  obtain ⟨ys, r2, n2, rfl⟩ := h2
  have := len_of r1.1 n1 hA
  have := len_of r2.1 n2 hB
  refine (GCD_any _ _ xs ys x r1 r2 n1 n2 (by omega) (by omega)).mono ?_
  rintro e w' ⟨r, zs, rfl, hr, hn, hv, b⟩
  obtain ⟨a, l, c, rfl⟩ := hr.shape
  exact ⟨a, l, c, rfl, ⟨zs, hr, hn, hv⟩, b⟩
theorem by_n {a1 a2 : Option Addr} {l1 c1 l2 c2 : Nat} {A B : Int} {x : World} (h1 : Nn x a1 l1 c1 A) (h2 : Nn x a2 l2 c2 B) {m : Nat} (hA : A < pw m) (hB : 0 < B) (hm : m ≤ 1000000) :
    Calls Tryz.prog 93 #[.agg #[.slice a1 l1 c1], .agg #[.slice a2 l2 c2]] x fun e w' => ∃ a l c, e = .returned (.agg #[.slice a l c]) ∧ Nn w' a l c (A / B) ∧ Below x.heap.size x w' := by
  obtain ⟨xs, r1, n1, rfl⟩ := h1
  obtain ⟨ys, r2, n2, rfl⟩ := h2
  have := len_of r1.1 n1 hA
  refine (by_any _ _ xs ys x r1 r2 n1 n2 hB (by omega)).mono ?_
  rintro e w' ⟨r, zs, rfl, hr, hn, hv, b⟩
  obtain ⟨a, l, c, rfl⟩ := hr.shape
  exact ⟨a, l, c, rfl, ⟨zs, hr, hn, hv⟩, b⟩
/-- Numbers whose product is reached. -/
def MulOK (m n : Nat) : Prop := (m < 80 ∨ n < 80) ∧ m ≤ 1000000 ∧ n ≤ 1000000
theorem MulOK.le {m n m' n' : Nat} (h : MulOK m n) (a : m' ≤ m) (b : n' ≤ n) : MulOK m' n' := by
  unfold MulOK at *; omega
theorem Mul_n {a1 a2 : Option Addr} {l1 c1 l2 c2 : Nat} {A B : Int} {x : World} (h1 : Nn x a1 l1 c1 A) (h2 : Nn x a2 l2 c2 B) {m n : Nat} (hA : A < pw m) (hB : B < pw n) (hm : MulOK m n) :
    Calls Tryz.prog 94 #[.agg #[.slice a1 l1 c1], .agg #[.slice a2 l2 c2]] x fun e w' => ∃ a l c, e = .returned (.agg #[.slice a l c]) ∧ Nn w' a l c (A * B) ∧ Below x.heap.size x w' := by
  obtain ⟨xs, r1, n1, rfl⟩ := h1
  obtain ⟨ys, r2, n2, rfl⟩ := h2
  have k1 := len_of r1.1 n1 hA
  have k2 := len_of r2.1 n2 hB
  obtain ⟨q1, q2, q3⟩ := hm.le k1 k2
  refine (Mul_short _ _ xs ys x r1 r2 q1 (by omega) (by omega)).mono ?_
  rintro e w' ⟨r, zs, rfl, hr, hn, hv, b⟩
  obtain ⟨a, l, c, rfl⟩ := hr.shape
  exact ⟨a, l, c, rfl, ⟨zs, hr, hn, hv⟩, b⟩
theorem IsZero_n {a : Option Addr} {l c : Nat} {A : Int} {x : World} (h : Nn x a l c A) :
    Calls Tryz.prog 95 #[.agg #[.slice a l c]] x fun e w' => e = .returned (.bool (decide (A = 0))) ∧ Below x.heap.size x w' := by
  obtain ⟨xs, r, n, rfl⟩ := h
  exact IsZero_any _ xs x r n
end Go.Proofs.YtbfamafajefapaaGreatDoor.Mo

namespace Go.Proofs.YtbfamafajefapaaGreatDoor.Mo
open Go.RowKit Dc Tn

theorem Bx.of {x : World} {X : Nat} {v : Value} {t : TypeId} (h : Blk x X #[v] t) : Bx x X v := ⟨h.at 0, h.free 0, t, h⟩
structure FT1 (W x : World) (V0 : Value) (V1 : Value) (V2 : Value) (V3 : Value) (V5 : Value) (V6 : Value) (V7 : Value) (V8 : Value) (N4 : Int) (N9 : Int) (y0 y1 y2 y3 y4 y5 y6 y7 y8 y9 y10 y11 : Bool) (t9 t10 t11 t12 t13 t14 t15 t16 t17 t18 t5 t6 : Value) : Prop where
  bel : Below W.heap.size W x
  o0 : y0 = true → t9 = V0
  o1 : y1 = true → t10 = V1
  o2 : y2 = true → t11 = V2
  o3 : y3 = true → t12 = V3
  o5 : y5 = true → t14 = V5
  o6 : y6 = true → t15 = V6
  o7 : y7 = true → t16 = V7
  o8 : y8 = true → t17 = V8
  o4 : y4 = true → NV N4 t13 x
  o9 : y9 = true → NV N9 t18 x
  o10 : y10 = true → ∃ X, t5 = .pointer (some ⟨X, 0, none⟩) ∧ W.heap.size ≤ X ∧ Blk x X #[.slice none 0 0] 71
  o11 : y11 = true → ∃ X, t6 = .pointer (some ⟨X, 0, none⟩) ∧ W.heap.size ≤ X ∧ Blk x X #[.slice none 0 0] 71
  ne10_11 : y10 = true → y11 = true → t5 ≠ t6
  d6_5 : y6 = true → y5 = true
  d8_7 : y8 = true → y7 = true
  d9_6 : y9 = true → y6 = true
  d9_8 : y9 = true → y8 = true
theorem FT1.grow {W x x' : World} {V0 : Value} {V1 : Value} {V2 : Value} {V3 : Value} {V5 : Value} {V6 : Value} {V7 : Value} {V8 : Value} {N4 : Int} {N9 : Int} {y0 y1 y2 y3 y4 y5 y6 y7 y8 y9 y10 y11 : Bool} {t9 t10 t11 t12 t13 t14 t15 t16 t17 t18 t5 t6 : Value} (h : FT1 W x V0 V1 V2 V3 V5 V6 V7 V8 N4 N9 y0 y1 y2 y3 y4 y5 y6 y7 y8 y9 y10 y11 t9 t10 t11 t12 t13 t14 t15 t16 t17 t18 t5 t6) (b : Below x.heap.size x x') : FT1 W x' V0 V1 V2 V3 V5 V6 V7 V8 N4 N9 y0 y1 y2 y3 y4 y5 y6 y7 y8 y9 y10 y11 t9 t10 t11 t12 t13 t14 t15 t16 t17 t18 t5 t6 where
  bel := bel' h.bel b
  o0 := h.o0
  o1 := h.o1
  o2 := h.o2
  o3 := h.o3
  o5 := h.o5
  o6 := h.o6
  o7 := h.o7
  o8 := h.o8
  o4 := fun u => (h.o4 u).grow b
  o9 := fun u => (h.o9 u).grow b
  o10 := fun u => by obtain ⟨k, e, l, K⟩ := h.o10 u; exact ⟨k, e, l, K.below b K.lt⟩
  o11 := fun u => by obtain ⟨k, e, l, K⟩ := h.o11 u; exact ⟨k, e, l, K.below b K.lt⟩
  ne10_11 := h.ne10_11
  d6_5 := h.d6_5
  d8_7 := h.d8_7
  d9_6 := h.d9_6
  d9_8 := h.d9_8
structure FT2 (W x : World) (V0 : Value) (V1 : Value) (V2 : Value) (V4 : Value) (V5 : Value) (V6 : Value) (N3 : Int) (N7 : Int) (N8 : Int) (y0 y1 y2 y3 y4 y5 y6 y7 y8 y9 : Bool) (t19 t20 t21 t22 t23 t24 t25 t26 t27 t7 : Value) : Prop where
  bel : Below W.heap.size W x
  o0 : y0 = true → t19 = V0
  o1 : y1 = true → t20 = V1
  o2 : y2 = true → t21 = V2
  o4 : y4 = true → t23 = V4
  o5 : y5 = true → t24 = V5
  o6 : y6 = true → t25 = V6
  o3 : y3 = true → NV N3 t22 x
  o7 : y7 = true → NV N7 t26 x
  o8 : y8 = true → NV N8 t27 x
  o9 : y9 = true → ∃ X, t7 = .pointer (some ⟨X, 0, none⟩) ∧ W.heap.size ≤ X ∧ Blk x X #[.slice none 0 0] 71
theorem FT2.grow {W x x' : World} {V0 : Value} {V1 : Value} {V2 : Value} {V4 : Value} {V5 : Value} {V6 : Value} {N3 : Int} {N7 : Int} {N8 : Int} {y0 y1 y2 y3 y4 y5 y6 y7 y8 y9 : Bool} {t19 t20 t21 t22 t23 t24 t25 t26 t27 t7 : Value} (h : FT2 W x V0 V1 V2 V4 V5 V6 N3 N7 N8 y0 y1 y2 y3 y4 y5 y6 y7 y8 y9 t19 t20 t21 t22 t23 t24 t25 t26 t27 t7) (b : Below x.heap.size x x') : FT2 W x' V0 V1 V2 V4 V5 V6 N3 N7 N8 y0 y1 y2 y3 y4 y5 y6 y7 y8 y9 t19 t20 t21 t22 t23 t24 t25 t26 t27 t7 where
  bel := bel' h.bel b
  o0 := h.o0
  o1 := h.o1
  o2 := h.o2
  o4 := h.o4
  o5 := h.o5
  o6 := h.o6
  o3 := fun u => (h.o3 u).grow b
  o7 := fun u => (h.o7 u).grow b
  o8 := fun u => (h.o8 u).grow b
  o9 := fun u => by obtain ⟨k, e, l, K⟩ := h.o9 u; exact ⟨k, e, l, K.below b K.lt⟩
structure FT3 (W x : World) (V0 : Value) (V1 : Value) (V2 : Value) (V4 : Value) (V5 : Value) (V6 : Value) (N3 : Int) (N7 : Int) (N8 : Int) (y0 y1 y2 y3 y4 y5 y6 y7 y8 y9 : Bool) (t28 t29 t30 t31 t32 t33 t34 t35 t36 t8 : Value) : Prop where
  bel : Below W.heap.size W x
  o0 : y0 = true → t28 = V0
  o1 : y1 = true → t29 = V1
  o2 : y2 = true → t30 = V2
  o4 : y4 = true → t32 = V4
  o5 : y5 = true → t33 = V5
  o6 : y6 = true → t34 = V6
  o3 : y3 = true → NV N3 t31 x
  o7 : y7 = true → NV N7 t35 x
  o8 : y8 = true → NV N8 t36 x
  o9 : y9 = true → ∃ X, t8 = .pointer (some ⟨X, 0, none⟩) ∧ W.heap.size ≤ X ∧ Blk x X #[.slice none 0 0] 71
theorem FT3.grow {W x x' : World} {V0 : Value} {V1 : Value} {V2 : Value} {V4 : Value} {V5 : Value} {V6 : Value} {N3 : Int} {N7 : Int} {N8 : Int} {y0 y1 y2 y3 y4 y5 y6 y7 y8 y9 : Bool} {t28 t29 t30 t31 t32 t33 t34 t35 t36 t8 : Value} (h : FT3 W x V0 V1 V2 V4 V5 V6 N3 N7 N8 y0 y1 y2 y3 y4 y5 y6 y7 y8 y9 t28 t29 t30 t31 t32 t33 t34 t35 t36 t8) (b : Below x.heap.size x x') : FT3 W x' V0 V1 V2 V4 V5 V6 N3 N7 N8 y0 y1 y2 y3 y4 y5 y6 y7 y8 y9 t28 t29 t30 t31 t32 t33 t34 t35 t36 t8 where
  bel := bel' h.bel b
  o0 := h.o0
  o1 := h.o1
  o2 := h.o2
  o4 := h.o4
  o5 := h.o5
  o6 := h.o6
  o3 := fun u => (h.o3 u).grow b
  o7 := fun u => (h.o7 u).grow b
  o8 := fun u => (h.o8 u).grow b
  o9 := fun u => by obtain ⟨k, e, l, K⟩ := h.o9 u; exact ⟨k, e, l, K.below b K.lt⟩
structure FT4 (W x : World) (V0 : Value) (V1 : Value) (V2 : Value) (V3 : Value) (V4 : Value) (V5 : Value) (V6 : Value) (V7 : Value) (V8 : Value) (V9 : Value) (V10 : Value) (V11 : Value) (V12 : Value) (y0 y1 y2 y3 y4 y5 y6 y7 y8 y9 y10 y11 y12 : Bool) (t37 t38 t39 t40 t41 t42 t43 t44 t45 t46 t47 t48 t49 : Value) : Prop where
  bel : Below W.heap.size W x
  o0 : y0 = true → t37 = V0
  o1 : y1 = true → t38 = V1
  o2 : y2 = true → t39 = V2
  o3 : y3 = true → t40 = V3
  o4 : y4 = true → t41 = V4
  o5 : y5 = true → t42 = V5
  o6 : y6 = true → t43 = V6
  o7 : y7 = true → t44 = V7
  o8 : y8 = true → t45 = V8
  o9 : y9 = true → t46 = V9
  o10 : y10 = true → t47 = V10
  o11 : y11 = true → t48 = V11
  o12 : y12 = true → t49 = V12
theorem FT4.grow {W x x' : World} {V0 : Value} {V1 : Value} {V2 : Value} {V3 : Value} {V4 : Value} {V5 : Value} {V6 : Value} {V7 : Value} {V8 : Value} {V9 : Value} {V10 : Value} {V11 : Value} {V12 : Value} {y0 y1 y2 y3 y4 y5 y6 y7 y8 y9 y10 y11 y12 : Bool} {t37 t38 t39 t40 t41 t42 t43 t44 t45 t46 t47 t48 t49 : Value} (h : FT4 W x V0 V1 V2 V3 V4 V5 V6 V7 V8 V9 V10 V11 V12 y0 y1 y2 y3 y4 y5 y6 y7 y8 y9 y10 y11 y12 t37 t38 t39 t40 t41 t42 t43 t44 t45 t46 t47 t48 t49) (b : Below x.heap.size x x') : FT4 W x' V0 V1 V2 V3 V4 V5 V6 V7 V8 V9 V10 V11 V12 y0 y1 y2 y3 y4 y5 y6 y7 y8 y9 y10 y11 y12 t37 t38 t39 t40 t41 t42 t43 t44 t45 t46 t47 t48 t49 where
  bel := bel' h.bel b
  o0 := h.o0
  o1 := h.o1
  o2 := h.o2
  o3 := h.o3
  o4 := h.o4
  o5 := h.o5
  o6 := h.o6
  o7 := h.o7
  o8 := h.o8
  o9 := h.o9
  o10 := h.o10
  o11 := h.o11
  o12 := h.o12
structure FT5 (W x : World) (V0 : Value) (V1 : Value) (V2 : Value) (V3 : Value) (V4 : Value) (V5 : Value) (V9 : Value) (V10 : Value) (V11 : Value) (V12 : Value) (y0 y1 y2 y3 y4 y5 y6 y7 y8 y9 y10 y11 y12 : Bool) (t37 t38 t39 t40 t41 t42 t43 t44 t45 t46 t47 t48 t49 : Value) : Prop where
  bel : Below W.heap.size W x
  o0 : y0 = true → t37 = V0
  o1 : y1 = true → t38 = V1
  o2 : y2 = true → t39 = V2
  o3 : y3 = true → t40 = V3
  o4 : y4 = true → t41 = V4
  o5 : y5 = true → t42 = V5
  o9 : y9 = true → t46 = V9
  o10 : y10 = true → t47 = V10
  o11 : y11 = true → t48 = V11
  o12 : y12 = true → t49 = V12
  o6 : y6 = true → t43 = undef
  o7 : y7 = true → t44 = undef
  o8 : y8 = true → t45 = undef
theorem FT5.grow {W x x' : World} {V0 : Value} {V1 : Value} {V2 : Value} {V3 : Value} {V4 : Value} {V5 : Value} {V9 : Value} {V10 : Value} {V11 : Value} {V12 : Value} {y0 y1 y2 y3 y4 y5 y6 y7 y8 y9 y10 y11 y12 : Bool} {t37 t38 t39 t40 t41 t42 t43 t44 t45 t46 t47 t48 t49 : Value} (h : FT5 W x V0 V1 V2 V3 V4 V5 V9 V10 V11 V12 y0 y1 y2 y3 y4 y5 y6 y7 y8 y9 y10 y11 y12 t37 t38 t39 t40 t41 t42 t43 t44 t45 t46 t47 t48 t49) (b : Below x.heap.size x x') : FT5 W x' V0 V1 V2 V3 V4 V5 V9 V10 V11 V12 y0 y1 y2 y3 y4 y5 y6 y7 y8 y9 y10 y11 y12 t37 t38 t39 t40 t41 t42 t43 t44 t45 t46 t47 t48 t49 where
  bel := bel' h.bel b
  o0 := h.o0
  o1 := h.o1
  o2 := h.o2
  o3 := h.o3
  o4 := h.o4
  o5 := h.o5
  o9 := h.o9
  o10 := h.o10
  o11 := h.o11
  o12 := h.o12
  o6 := h.o6
  o7 := h.o7
  o8 := h.o8
end Go.Proofs.YtbfamafajefapaaGreatDoor.Mo
