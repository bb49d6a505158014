import Derived.Test.YtebilgnmnambnaaGreatDoorPart10
import Derived.Test.YtebilgnmnambnaaGreatDoorPart34
import Derived.Test.YtebilgnmnambnaaGreatDoorPart23
import Derived.Deep.RegionHeld3
import Derived.Test.YtebilgnmnambnaaGreatDoorPart22
import Derived.Test.YtebilgnmnambnaaGreatDoorPart39
import Derived.Test.YtebilgnmnambnaaGreatDoorPart27
import Derived.Test.YtebilgnmnambnaaGreatDoorPart11
import Derived.Test.YtebilgnmnambnaaGreatDoorPart38

namespace Go.Proofs.YtebilgnmnambnaaGreatDoor.Mo
open Go.RowKit
set_option maxRecDepth 100000 in
set_option maxHeartbeats 3200000 in
theorem two_e (n d m k : ByteArray) (c : Int) (w : World) (hc : (c != 0) = true) (G1 : ∀ x, Below w.heap.size w x → Calls Tryz.prog 51 #[.agg #[.string n, .string d]] x fun e w' => e = .returned (.int .i64 c) ∧ Below x.heap.size x w') : Calls Tryz.prog 61 #[.agg #[.string n, .string d], .agg #[.string m, .string k]] w fun e w' => e = .returned (.int .i64 c) ∧ Below w.heap.size w w' := by
  have KA := ((Blk.new w #[.string n, .string d] 23).alloc (.cells #[.string m, .string k] 23))
  have KB := (Blk.new (w.alloc (.cells #[.string n, .string d] 23)) #[.string m, .string k] 23)
  have pr : Below w.heap.size w ((w.alloc (.cells #[.string n, .string d] 23)).alloc (.cells #[.string m, .string k] 23)) := (((Below.refl _ _).alloc (by simp; try omega) _).alloc (by simp; try omega) _)
  simp only [World.size_alloc] at KB
  go_enter Tryz.func61, Tryz.ntmps61
  go_wp2_with (first
    | (go_at_call 51; (refine (G1 _ pr).mono ?_); (rintro e w1 ⟨rfl, b1⟩); (have p1 := bel' pr b1); (have KA1 := KA.below b1 KA.lt); (have KB1 := KB.below b1 KB.lt); (have hKA10 := KA1.at 0); (have hKA11 := KA1.at 1); (simp at hKA10 hKA11); (have hKB10 := KB1.at 0); (have hKB11 := KB1.at 1); (simp at hKB10 hKB11))
    | fail)
  go_ret
  exact ⟨rfl, p1⟩
set_option maxRecDepth 100000 in
set_option maxHeartbeats 3200000 in
theorem two_k (n d m k : ByteArray) (c : Int) (w : World) (G1 : ∀ x, Below w.heap.size w x → Calls Tryz.prog 51 #[.agg #[.string n, .string d]] x fun e w' => e = .returned (.int .i64 0) ∧ Below x.heap.size x w') (G2 : ∀ x, Below w.heap.size w x → Calls Tryz.prog 51 #[.agg #[.string m, .string k]] x fun e w' => e = .returned (.int .i64 c) ∧ Below x.heap.size x w') : Calls Tryz.prog 61 #[.agg #[.string n, .string d], .agg #[.string m, .string k]] w fun e w' => e = .returned (.int .i64 c) ∧ Below w.heap.size w w' := by
  have KA := ((Blk.new w #[.string n, .string d] 23).alloc (.cells #[.string m, .string k] 23))
  have KB := (Blk.new (w.alloc (.cells #[.string n, .string d] 23)) #[.string m, .string k] 23)
  have pr : Below w.heap.size w ((w.alloc (.cells #[.string n, .string d] 23)).alloc (.cells #[.string m, .string k] 23)) := (((Below.refl _ _).alloc (by simp; try omega) _).alloc (by simp; try omega) _)
  simp only [World.size_alloc] at KB
  go_enter Tryz.func61, Tryz.ntmps61
  go_wp2_with (first
    | (go_at_call 51; (have mk2 := p1); (refine (G2 _ p1).mono ?_); (rintro e w2 ⟨rfl, b2⟩); (have p2 := bel' p1 b2); (have KA2 := KA1.below b2 KA1.lt); (have KB2 := KB1.below b2 KB1.lt); (have hKA20 := KA2.at 0); (have hKA21 := KA2.at 1); (simp at hKA20 hKA21); (have hKB20 := KB2.at 0); (have hKB21 := KB2.at 1); (simp at hKB20 hKB21))
    | (go_at_call 51; (refine (G1 _ pr).mono ?_); (rintro e w1 ⟨rfl, b1⟩); (have p1 := bel' pr b1); (have KA1 := KA.below b1 KA.lt); (have KB1 := KB.below b1 KB.lt); (have hKA10 := KA1.at 0); (have hKA11 := KA1.at 1); (simp at hKA10 hKA11); (have hKB10 := KB1.at 0); (have hKB11 := KB1.at 1); (simp at hKB10 hKB11))
    | fail)
  go_ret
  exact ⟨rfl, p2⟩
end Go.Proofs.YtebilgnmnambnaaGreatDoor.Mo

namespace Go.Proofs.YtebilgnmnambnaaGreatDoor.Mo
open Go.RowKit Ip
def Nl (x : World) (a : Option Addr) (l c : Nat) (N : Int) : Prop := ∃ xs : List Int, L.Rd x (.slice a l c) xs ∧ Tl.Nm xs ∧ Tl.val xs = N
theorem Nl.grow {x x' : World} {a : Option Addr} {l c : Nat} {N : Int} (h : Nl x a l c N) (b : Below x.heap.size x x') : Nl x' a l c N := by
  obtain ⟨xs, r, n, v⟩ := h
  exact ⟨xs, r.grow b, n, v⟩
theorem isq_nl {x : World} {r : Rat} {a a' : Option Addr} {l c l' c' : Nat} (h1 : Nl x a l c (r.num.natAbs : Int)) (h2 : Nl x a' l' c' (r.den : Int)) : L.IsQ x (.agg #[.bool (decide (r.num < 0)), .slice a l c, .slice a' l' c']) r := by
  obtain ⟨xs, r1, n1, v1⟩ := h1
  obtain ⟨ys, r2, n2, v2⟩ := h2
  have e1 : l = xs.length := by obtain ⟨_, _, _, e, _⟩ := r1; cases e; rfl
  have e2 : l' = ys.length := by obtain ⟨_, _, _, e, _⟩ := r2; cases e; rfl
  subst e1 e2
  exact ⟨xs, ys, a, a', c, c', rfl, r1, n1, v1, r2, n2, v2⟩
theorem nl_isq {x : World} {v : Value} {r : Rat} (h : L.IsQ x v r) : ∃ a l c a' l' c', v = .agg #[.bool (decide (r.num < 0)), .slice a l c, .slice a' l' c'] ∧ Nl x a l c (r.num.natAbs : Int) ∧ Nl x a' l' c' (r.den : Int) ∧ (l = 0 ↔ r.num = 0) := by
  obtain ⟨ns, ds, a1, a2, c1, c2, e, h1, n1, v1, h2, n2, v2⟩ := h
  refine ⟨a1, _, c1, a2, _, c2, e, ⟨ns, h1, n1, v1⟩, ⟨ds, h2, n2, v2⟩, ?_⟩
  constructor
  · intro z
    have : ns = [] := List.length_eq_zero_iff.1 z
    subst this
    simp [Tl.val] at v1
    omega
  · intro z
    rw [z] at v1
    by_cases e : ns = []
    · subst e; rfl
    · have := Tl.val_low h1.1 n1 e
      have := Tl.pw_pos (ns.length - 1)
      simp at v1
      omega
theorem qput {w : World} {n : Nat} {v : Value} {r : Rat} {x y z : Value} {g : Bool} {a1 a2 : Option Addr} {n1 c1 n2 c2 : Nat} (h : L.IsQ w v r) (R : Rb w n (.bool g) (.slice a1 n1 c1) (.slice a2 n2 c2)) : L.IsQ (((w.setCell ⟨n, 0, none⟩ x).setCell ⟨n, 1, none⟩ y).setCell ⟨n, 2, none⟩ z) v r := by
  obtain ⟨t, K⟩ := R.bk
  obtain ⟨ns, ds, a1, a2, c1, c2, e, h1, m1, v1, h2, m2, v2⟩ := h
  exact ⟨ns, ds, a1, a2, c1, c2, e, h1.putQ K, m1, v1, h2.putQ K, m2, v2⟩
theorem kc7 {W x : World} {b i : Nat} {v : Value} (d : Below W.heap.size W x) (h : W.cell? ⟨b, i, none⟩ = some v) : x.cell? ⟨b, i, none⟩ = some v := (d.cell (p := ⟨b, i, none⟩) (L.lt_of_cell h)).trans h
theorem qskip {w : World} {n b : Nat} {c : Array Value} {t : TypeId} (h : Blk w n c t) (hb : b ≠ n) (x y z : Value) : Blk (((w.setCell ⟨b, 0, none⟩ x).setCell ⟨b, 1, none⟩ y).setCell ⟨b, 2, none⟩ z) n c t := by
  have h' : w.heap[n]? = some (.cells c t (0, 0)) := h
  show (((w.setCell ⟨b, 0, none⟩ x).setCell ⟨b, 1, none⟩ y).setCell ⟨b, 2, none⟩ z).heap[n]? = _
  simp [World.setCell, Array.getElem?_modify, h', hb]
theorem mul_nl {x : World} {a1 a2 : Option Addr} {l1 c1 l2 c2 : Nat} {A B : Int} {K : Nat} (h1 : Nl x a1 l1 c1 A) (h2 : Nl x a2 l2 c2 B) (hA : A < Tl.pw K) (hB : B < Tl.pw K) (hK : K ≤ 1000000000) : Calls Tryz.prog 78 #[.slice a1 l1 c1, .slice a2 l2 c2] x fun e w' => ∃ a l c, e = .returned (.slice a l c) ∧ Nl w' a l c (A * B) ∧ Below x.heap.size x w' := by
  obtain ⟨xs, r1, n1, rfl⟩ := h1
  obtain ⟨ys, r2, n2, rfl⟩ := h2
  have k1 := L.len_of_lt r1.1 n1 hA
  have k2 := L.len_of_lt r2.1 n2 hB
  refine (L.Mul_any _ _ xs ys x r1 r2 (by omega) (by omega)).mono ?_
  rintro e w' ⟨v, zs, rfl, hr, hn, hv, b⟩
  obtain ⟨a, c, rfl⟩ := L.rd_form hr
  exact ⟨a, _, c, rfl, ⟨zs, hr, hn, hv⟩, b⟩
theorem make_nl {x : World} {a1 a2 : Option Addr} {l1 c1 l2 c2 : Nat} {U V : Int} {K : Nat} (g : Bool) (h1 : Nl x a1 l1 c1 U) (h2 : Nl x a2 l2 c2 V) (hU : U < Tl.pw K) (hV : V < Tl.pw K) (hK : K ≤ 4000000000) (h0 : 0 < V) : Calls Tryz.prog 80 #[.bool g, .slice a1 l1 c1, .slice a2 l2 c2] x (Qf (mkRat (L.sgI g U) V.toNat) x) := by
  obtain ⟨xs, r1, n1, rfl⟩ := h1
  obtain ⟨ys, r2, n2, rfl⟩ := h2
  exact qf_of (L.Make_q g _ _ xs ys K x r1 r2 n1 n2 (L.len_of_lt r1.1 n1 hU) (L.len_of_lt r2.1 n2 hV) (by omega) h0)
theorem cmp_nl {x : World} {a1 a2 : Option Addr} {l1 c1 l2 c2 : Nat} {A B : Int} {K : Nat} (h1 : Nl x a1 l1 c1 A) (h2 : Nl x a2 l2 c2 B) (hA : A < Tl.pw K) (hK : K ≤ 4000000000) : Calls Tryz.prog 98 #[.slice a1 l1 c1, .slice a2 l2 c2] x fun e w' => e = .returned (.int .i64 (L.cmp3 A B)) ∧ Below x.heap.size x w' := by
  obtain ⟨xs, r1, n1, rfl⟩ := h1
  obtain ⟨ys, r2, n2, rfl⟩ := h2
  have k1 := L.len_of_lt r1.1 n1 hA
  exact L.Cmp_any _ _ xs ys x r1 r2 n1 n2 (by omega)
theorem lt_pp {A B : Int} {K : Nat} (a0 : 0 ≤ A) (a1 : A < Tl.pw K) (_b0 : 0 ≤ B) (b1 : B < Tl.pw K) : A * B < Tl.pw (K + K) := by
  rw [Tl.pw_add]
  exact Int.lt_of_le_of_lt (Int.mul_le_mul_of_nonneg_left (Int.le_of_lt b1) a0) (Int.mul_lt_mul_of_pos_right a1 (by omega))
theorem add_nl {x : World} {a1 a2 : Option Addr} {l1 c1 l2 c2 : Nat} {A B : Int} {K : Nat} (h1 : Nl x a1 l1 c1 A) (h2 : Nl x a2 l2 c2 B) (hA : A < Tl.pw K) (hB : B < Tl.pw K) (hK : K ≤ 4000000000) : Calls Tryz.prog 79 #[.slice a1 l1 c1, .slice a2 l2 c2] x fun e w' => ∃ a l c, e = .returned (.slice a l c) ∧ Nl w' a l c (A + B) ∧ Below x.heap.size x w' := by
  obtain ⟨xs, r1, n1, rfl⟩ := h1
  obtain ⟨ys, r2, n2, rfl⟩ := h2
  have k1 := L.len_of_lt r1.1 n1 hA
  have k2 := L.len_of_lt r2.1 n2 hB
  refine (L.Add_any _ _ xs ys x r1 r2 (by omega) (by omega)).mono ?_
  rintro e w' ⟨v, zs, rfl, hr, hn, hv, b⟩
  obtain ⟨a, c, rfl⟩ := L.rd_form hr
  exact ⟨a, _, c, rfl, ⟨zs, hr, hn, hv⟩, b⟩
theorem sub_nl {x : World} {a1 a2 : Option Addr} {l1 c1 l2 c2 : Nat} {A B : Int} {K : Nat} (h1 : Nl x a1 l1 c1 A) (h2 : Nl x a2 l2 c2 B) (hA : A < Tl.pw K) (hK : K ≤ 4000000000) (le : B ≤ A) : Calls Tryz.prog 101 #[.slice a1 l1 c1, .slice a2 l2 c2] x fun e w' => ∃ a l c, e = .returned (.slice a l c) ∧ Nl w' a l c (A - B) ∧ Below x.heap.size x w' := by
  obtain ⟨xs, r1, n1, rfl⟩ := h1
  obtain ⟨ys, r2, n2, rfl⟩ := h2
  have k1 := L.len_of_lt r1.1 n1 hA
  have k2 := L.len_of_lt r2.1 n2 (Int.lt_of_le_of_lt le (Tl.val_lt r1.1))
  refine (L.Sub_any _ _ xs ys x r1 r2 (by omega) k2 le).mono ?_
  rintro e w' ⟨v, zs, rfl, hr, hn, hv, b⟩
  obtain ⟨a, c, rfl⟩ := L.rd_form hr
  exact ⟨a, _, c, rfl, ⟨zs, hr, hn, hv⟩, b⟩
end Go.Proofs.YtebilgnmnambnaaGreatDoor.Mo

namespace Go.Proofs.YtebilgnmnambnaaGreatDoor.Mo
open Go.RowKit
set_option maxRecDepth 100000 in
set_option maxHeartbeats 3200000 in
theorem To_walk (g1 : Bool) (a1 : Option Addr) (l1 c1 : Nat) (a1' : Option Addr) (l1' c1' : Nat) (g2 : Bool) (a2 : Option Addr) (l2 c2 : Nat) (a2' : Option Addr) (l2' c2' : Nat) (way : Int) (r s t1 t2 t3 : Rat) (w : World) (H1 : L.IsQ w (.agg #[.bool g1, .slice a1 l1 c1, .slice a1' l1' c1']) r) (H2 : L.IsQ w (.agg #[.bool g2, .slice a2 l2 c2, .slice a2' l2' c2']) s) (DV : ∀ x v1 v2, L.IsQ x v1 r → L.IsQ x v2 s → Calls Tryz.prog 54 #[v1, v2] x (Qf t1 x)) (RD : ∀ x v1, L.IsQ x v1 t1 → Calls Tryz.prog 71 #[v1, .int .i64 way] x (Qf t2 x)) (MU : ∀ x v1 v2, L.IsQ x v1 t2 → L.IsQ x v2 s → Calls Tryz.prog 34 #[v1, v2] x (Qf t3 x)) : Calls Tryz.prog 63 #[.agg #[.bool g1, .slice a1 l1 c1, .slice a1' l1' c1'], .agg #[.bool g2, .slice a2 l2 c2, .slice a2' l2' c2'], .int .i64 way] w (Qf t3 w) := by
  have KS := ((Rb.new w (.bool g1) (.slice a1 l1 c1) (.slice a1' l1' c1') 56).alloc (.cells #[.bool g2, .slice a2 l2 c2, .slice a2' l2' c2'] 56)).alloc (.cells #[.bool false, .slice none 0 0, .slice none 0 0] 56)
  have KT := (Rb.new (w.alloc (.cells #[.bool g1, .slice a1 l1 c1, .slice a1' l1' c1'] 56)) (.bool g2) (.slice a2 l2 c2) (.slice a2' l2' c2') 56).alloc (.cells #[.bool false, .slice none 0 0, .slice none 0 0] 56)
  have KR := Rb.new ((w.alloc (.cells #[.bool g1, .slice a1 l1 c1, .slice a1' l1' c1'] 56)).alloc (.cells #[.bool g2, .slice a2 l2 c2, .slice a2' l2' c2'] 56)) (.bool false) (.slice none 0 0) (.slice none 0 0) 56
  have pr : Below w.heap.size w (((w.alloc (.cells #[.bool g1, .slice a1 l1 c1, .slice a1' l1' c1'] 56)).alloc (.cells #[.bool g2, .slice a2 l2 c2, .slice a2' l2' c2'] 56)).alloc (.cells #[.bool false, .slice none 0 0, .slice none 0 0] 56)) := (((Below.refl _ _).alloc (Nat.le_refl _) _).alloc (by simp) _).alloc (by simp; omega) _
  simp only [World.size_alloc] at KT KR
  have j1 := H1.grow pr
  have j2 := H2.grow pr
  clear H1 H2
  go_enter Tryz.func63, Tryz.ntmps63
  go_wp2_with fail
  generalize ((w.alloc (.cells #[.bool g1, .slice a1 l1 c1, .slice a1' l1' c1'] 56)).alloc (.cells #[.bool g2, .slice a2 l2 c2, .slice a2' l2' c2'] 56)).alloc (.cells #[.bool false, .slice none 0 0, .slice none 0 0] 56) = W at *
  have ks0 := KS.c0
  have ks1 := KS.c1
  have ks2 := KS.c2
  have kt0 := KT.c0
  have kt1 := KT.c1
  have kt2 := KT.c2
  have hA1 : w.heap.size ≠ w.heap.size + 1 + 1 := by omega
  have hA2 : w.heap.size + 1 + 1 ≠ w.heap.size := by omega
  have hB1 : w.heap.size + 1 ≠ w.heap.size + 1 + 1 := by omega
  have hB2 : w.heap.size + 1 + 1 ≠ w.heap.size + 1 := by omega
  go_region_held3 (fun x => x.cell? ⟨w.heap.size, 0, none⟩ = some (.bool g1) ∧ x.cell? ⟨w.heap.size, 1, none⟩ = some (.slice a1 l1 c1) ∧ x.cell? ⟨w.heap.size, 2, none⟩ = some (.slice a1' l1' c1') ∧ x.cell? ⟨w.heap.size + 1, 0, none⟩ = some (.bool g2) ∧ x.cell? ⟨w.heap.size + 1, 1, none⟩ = some (.slice a2 l2 c2) ∧ x.cell? ⟨w.heap.size + 1, 2, none⟩ = some (.slice a2' l2' c2')) (go_keep) (first
    | (go_at_call 34; refine (MU _ _ _ t4 (j2.grow d4)).mono ?_; rintro e w5 ⟨g5, a5, l5, c5, a5', l5', c5', rfl, t5, b5⟩; have d5 := bel' d4 b5; have u0 := (KS.grow d5).c0; have u3 := (KT.grow d5).c0; have u1 := (KS.grow d5).c1; have u4 := (KT.grow d5).c1; have u2 := (KS.grow d5).c2; have u5 := (KT.grow d5).c2; have KR5 := KR.grow d5; have q0 := KR5.c0; have q1 := KR5.c1; have q2 := KR5.c2; have y0 := KR5.f0; have y1 := KR5.f1; have y2 := KR5.f2)
    | (go_at_call 71; refine (RD _ _ t3).mono ?_; rintro e w4 ⟨g4, a4, l4, c4, a4', l4', c4', rfl, t4, b4⟩; have d4 := bel' d3 b4; have u0 := (KS.grow d4).c0; have u3 := (KT.grow d4).c0; have u1 := (KS.grow d4).c1; have u4 := (KT.grow d4).c1; have u2 := (KS.grow d4).c2; have u5 := (KT.grow d4).c2)
    | (go_at_call 54; refine (DV _ _ _ (j1.grow (Below.refl _ _).drew) (j2.grow (Below.refl _ _).drew)).mono ?_; rintro e w3 ⟨g3, a3, l3, c3, a3', l3', c3', rfl, t3, b3⟩; have d3 := undrew b3; have u0 := (KS.grow d3).c0; have u3 := (KT.grow d3).c0; have u1 := (KS.grow d3).c1; have u4 := (KT.grow d3).c1; have u2 := (KS.grow d3).c2; have u5 := (KT.grow d3).c2)
    | fail)
  go_wp2_with fail
  obtain ⟨F0, F1, F2⟩ := KR5.put (.bool g5) (.slice a5 l5 c5) (.slice a5' l5' c5')
  have tE := qput (x := .bool g5) (y := .slice a5 l5 c5) (z := .slice a5' l5' c5') t5 KR5
  have bE := bset3 (n := w.heap.size + 1 + 1) (x := .bool g5) (y := .slice a5 l5 c5) (z := .slice a5' l5' c5') (bel' pr d5) (by omega)
  exact bodyPost_ret (v := .agg #[.bool g5, .slice a5 l5 c5, .slice a5' l5' c5']) (by simp [results, Tryz.results63, go_sem, F0, F1, F2]) rfl ⟨_, _, _, _, _, _, _, rfl, tE, bE⟩
set_option maxRecDepth 100000 in
set_option maxHeartbeats 3200000 in
theorem RRound_err (n d m k : ByteArray) (way c : Int) (w : World) (hc : (c != 0) = true) (TW : ∀ x, Below w.heap.size w x → Calls Tryz.prog 61 #[.agg #[.string n, .string d], .agg #[.string m, .string k]] x fun e w' => e = .returned (.int .i64 c) ∧ Below x.heap.size x w') : Calls Tryz.prog 14 #[.agg #[.string n, .string d], .agg #[.string m, .string k], .int .i64 way] w fun e w' => e = .returned (.tuple #[.agg #[.string ⟨#[]⟩, .string ⟨#[]⟩], .int .i64 c]) ∧ Below w.heap.size w w' := by
  have KA := (((Blk.new w #[.string n, .string d] 23).alloc (.cells #[.string m, .string k] 23)).alloc (.cells #[.string ⟨#[]⟩, .string ⟨#[]⟩] 23))
  have KB := ((Blk.new (w.alloc (.cells #[.string n, .string d] 23)) #[.string m, .string k] 23).alloc (.cells #[.string ⟨#[]⟩, .string ⟨#[]⟩] 23))
  have KR := (Blk.new ((w.alloc (.cells #[.string n, .string d] 23)).alloc (.cells #[.string m, .string k] 23)) #[.string ⟨#[]⟩, .string ⟨#[]⟩] 23)
  have pr : Below w.heap.size w (((w.alloc (.cells #[.string n, .string d] 23)).alloc (.cells #[.string m, .string k] 23)).alloc (.cells #[.string ⟨#[]⟩, .string ⟨#[]⟩] 23)) := ((((Below.refl _ _).alloc (by simp; try omega) _).alloc (by simp; try omega) _).alloc (by simp; try omega) _)
  simp only [World.size_alloc] at KB KR
  go_enter Tryz.func14, Tryz.ntmps14
  go_wp2_with (first
    | (go_at_call 61; (refine (TW _ pr).mono ?_); (rintro e w1 ⟨rfl, b1⟩); (have p1 := bel' pr b1); (have KA1 := KA.below b1 KA.lt); (have KB1 := KB.below b1 KB.lt); (have KR1 := KR.below b1 KR.lt); (have K1 := KR1); (have z0 := K1.at 0); (have z1 := K1.at 1); (have y0 := K1.free 0); (have y1 := K1.free 1); (simp at z0 z1))
    | fail)
  have KE := bput (bput K1 0 (.string ⟨#[]⟩)) 1 (.string ⟨#[]⟩)
  have bE := (p1.setCell (p := ⟨w.heap.size + 1 + 1, 0, none⟩) (show w.heap.size ≤ w.heap.size + 1 + 1 by omega) (.string ⟨#[]⟩)).setCell (p := ⟨w.heap.size + 1 + 1, 1, none⟩) (show w.heap.size ≤ w.heap.size + 1 + 1 by omega) (.string ⟨#[]⟩)
  have q0 := KE.at 0
  have q1 := KE.at 1
  simp at q0 q1
  exact bodyPost_ret (v := .tuple #[.agg #[.string ⟨#[]⟩, .string ⟨#[]⟩], .int .i64 c]) (by simp [results, Tryz.results14, go_sem, q0, q1]) rfl ⟨rfl, bE⟩
set_option maxRecDepth 100000 in
set_option maxHeartbeats 3200000 in
theorem RRound_low (n d m k : ByteArray) (way z : Int) (s : Rat) (w : World) (hz : decide (z ≤ 0) = true) (TW : ∀ x, Below w.heap.size w x → Calls Tryz.prog 61 #[.agg #[.string n, .string d], .agg #[.string m, .string k]] x fun e w' => e = .returned (.int .i64 0) ∧ Below x.heap.size x w') (I2 : ∀ x, Below w.heap.size w x → Calls Tryz.prog 52 #[.agg #[.string m, .string k]] x (Qf s x)) (SG : ∀ x v1, L.IsQ x v1 s → Calls Tryz.prog 53 #[v1] x fun e w' => e = .returned (.int .i64 z) ∧ Below x.heap.size x w') : Calls Tryz.prog 14 #[.agg #[.string n, .string d], .agg #[.string m, .string k], .int .i64 way] w fun e w' => e = .returned (.tuple #[.agg #[.string ⟨#[]⟩, .string ⟨#[]⟩], .int .i64 1]) ∧ Below w.heap.size w w' := by
  have KA := (((Blk.new w #[.string n, .string d] 23).alloc (.cells #[.string m, .string k] 23)).alloc (.cells #[.string ⟨#[]⟩, .string ⟨#[]⟩] 23))
  have KB := ((Blk.new (w.alloc (.cells #[.string n, .string d] 23)) #[.string m, .string k] 23).alloc (.cells #[.string ⟨#[]⟩, .string ⟨#[]⟩] 23))
  have KR := (Blk.new ((w.alloc (.cells #[.string n, .string d] 23)).alloc (.cells #[.string m, .string k] 23)) #[.string ⟨#[]⟩, .string ⟨#[]⟩] 23)
  have pr : Below w.heap.size w (((w.alloc (.cells #[.string n, .string d] 23)).alloc (.cells #[.string m, .string k] 23)).alloc (.cells #[.string ⟨#[]⟩, .string ⟨#[]⟩] 23)) := ((((Below.refl _ _).alloc (by simp; try omega) _).alloc (by simp; try omega) _).alloc (by simp; try omega) _)
  simp only [World.size_alloc] at KB KR
  go_enter Tryz.func14, Tryz.ntmps14
  go_wp2_with (first
    | (go_at_call 53; (have mk3 := p2); (refine (SG _ _ q2).mono ?_); (rintro e w3 ⟨rfl, b3⟩); (have p3 := bel' p2 b3); (have KA3 := KA2.below b3 KA2.lt); (have KB3 := KB2.below b3 KB2.lt); (have KR3 := KR2.below b3 KR2.lt); (have K1 := KR3); (have z0 := K1.at 0); (have z1 := K1.at 1); (have y0 := K1.free 0); (have y1 := K1.free 1); (simp at z0 z1))
    | (go_at_call 52; (have mk2 := p1); (refine (I2 _ p1).mono ?_); (rintro e w2 ⟨g2, a2, l2, c2, a2', l2', c2', rfl, t2, b2⟩); (have al2 := (Below.refl w2.heap.size w2).alloc (Nat.le_refl _) (.cells #[.bool g2, .slice a2 l2 c2, .slice a2' l2' c2'] 56)); (have NB2 := Rb.new w2 (.bool g2) (.slice a2 l2 c2) (.slice a2' l2' c2') 56); (have bb2 := bel' b2 al2); (have p2 := bel' p1 bb2); (have KA2 := KA1.below bb2 KA1.lt); (have KB2 := KB1.below bb2 KB1.lt); (have KR2 := KR1.below bb2 KR1.lt); (have rNB220 := NB2.c0); (have rNB221 := NB2.c1); (have rNB222 := NB2.c2); (have q2 := t2.grow al2))
    | (go_at_call 61; (refine (TW _ pr).mono ?_); (rintro e w1 ⟨rfl, b1⟩); (have p1 := bel' pr b1); (have KA1 := KA.below b1 KA.lt); (have KB1 := KB.below b1 KB.lt); (have KR1 := KR.below b1 KR.lt); (have hKB10 := KB1.at 0); (have hKB11 := KB1.at 1); (simp at hKB10 hKB11))
    | fail)
  have KE := bput (bput K1 0 (.string ⟨#[]⟩)) 1 (.string ⟨#[]⟩)
  have bE := (p3.setCell (p := ⟨w.heap.size + 1 + 1, 0, none⟩) (show w.heap.size ≤ w.heap.size + 1 + 1 by omega) (.string ⟨#[]⟩)).setCell (p := ⟨w.heap.size + 1 + 1, 1, none⟩) (show w.heap.size ≤ w.heap.size + 1 + 1 by omega) (.string ⟨#[]⟩)
  have q0 := KE.at 0
  have q1 := KE.at 1
  simp at q0 q1
  exact bodyPost_ret (v := .tuple #[.agg #[.string ⟨#[]⟩, .string ⟨#[]⟩], .int .i64 1]) (by simp [results, Tryz.results14, go_sem, q0, q1]) rfl ⟨rfl, bE⟩
set_option maxRecDepth 100000 in
set_option maxHeartbeats 3200000 in
theorem RRound_way (n d m k : ByteArray) (way z : Int) (s : Rat) (w : World) (hz : decide (z ≤ 0) = false) (TW : ∀ x, Below w.heap.size w x → Calls Tryz.prog 61 #[.agg #[.string n, .string d], .agg #[.string m, .string k]] x fun e w' => e = .returned (.int .i64 0) ∧ Below x.heap.size x w') (I2 : ∀ x, Below w.heap.size w x → Calls Tryz.prog 52 #[.agg #[.string m, .string k]] x (Qf s x)) (SG : ∀ x v1, L.IsQ x v1 s → Calls Tryz.prog 53 #[v1] x fun e w' => e = .returned (.int .i64 z) ∧ Below x.heap.size x w') (MO : ∀ x, Calls Tryz.prog 62 #[.int .i64 way] x fun e w' => e = .returned (.bool false) ∧ Below x.heap.size x w') : Calls Tryz.prog 14 #[.agg #[.string n, .string d], .agg #[.string m, .string k], .int .i64 way] w fun e w' => e = .returned (.tuple #[.agg #[.string ⟨#[]⟩, .string ⟨#[]⟩], .int .i64 1]) ∧ Below w.heap.size w w' := by
  have KA := (((Blk.new w #[.string n, .string d] 23).alloc (.cells #[.string m, .string k] 23)).alloc (.cells #[.string ⟨#[]⟩, .string ⟨#[]⟩] 23))
  have KB := ((Blk.new (w.alloc (.cells #[.string n, .string d] 23)) #[.string m, .string k] 23).alloc (.cells #[.string ⟨#[]⟩, .string ⟨#[]⟩] 23))
  have KR := (Blk.new ((w.alloc (.cells #[.string n, .string d] 23)).alloc (.cells #[.string m, .string k] 23)) #[.string ⟨#[]⟩, .string ⟨#[]⟩] 23)
  have pr : Below w.heap.size w (((w.alloc (.cells #[.string n, .string d] 23)).alloc (.cells #[.string m, .string k] 23)).alloc (.cells #[.string ⟨#[]⟩, .string ⟨#[]⟩] 23)) := ((((Below.refl _ _).alloc (by simp; try omega) _).alloc (by simp; try omega) _).alloc (by simp; try omega) _)
  simp only [World.size_alloc] at KB KR
  go_enter Tryz.func14, Tryz.ntmps14
  go_wp2_with (first
    | (go_at_call 62; (have mk4 := p3); (refine (MO _).mono ?_); (rintro e w4 ⟨rfl, b4⟩); (have p4 := bel' p3 b4); (have KA4 := KA3.below b4 KA3.lt); (have KB4 := KB3.below b4 KB3.lt); (have KR4 := KR3.below b4 KR3.lt); (have K1 := KR4); (have z0 := K1.at 0); (have z1 := K1.at 1); (have y0 := K1.free 0); (have y1 := K1.free 1); (simp at z0 z1))
    | (go_at_call 53; (have mk3 := p2); (refine (SG _ _ q2).mono ?_); (rintro e w3 ⟨rfl, b3⟩); (have p3 := bel' p2 b3); (have KA3 := KA2.below b3 KA2.lt); (have KB3 := KB2.below b3 KB2.lt); (have KR3 := KR2.below b3 KR2.lt); (have NB2_3 := NB2.grow b3); (have q2_3 := q2.grow b3))
    | (go_at_call 52; (have mk2 := p1); (refine (I2 _ p1).mono ?_); (rintro e w2 ⟨g2, a2, l2, c2, a2', l2', c2', rfl, t2, b2⟩); (have al2 := (Below.refl w2.heap.size w2).alloc (Nat.le_refl _) (.cells #[.bool g2, .slice a2 l2 c2, .slice a2' l2' c2'] 56)); (have NB2 := Rb.new w2 (.bool g2) (.slice a2 l2 c2) (.slice a2' l2' c2') 56); (have bb2 := bel' b2 al2); (have p2 := bel' p1 bb2); (have KA2 := KA1.below bb2 KA1.lt); (have KB2 := KB1.below bb2 KB1.lt); (have KR2 := KR1.below bb2 KR1.lt); (have rNB220 := NB2.c0); (have rNB221 := NB2.c1); (have rNB222 := NB2.c2); (have q2 := t2.grow al2))
    | (go_at_call 61; (refine (TW _ pr).mono ?_); (rintro e w1 ⟨rfl, b1⟩); (have p1 := bel' pr b1); (have KA1 := KA.below b1 KA.lt); (have KB1 := KB.below b1 KB.lt); (have KR1 := KR.below b1 KR.lt); (have hKB10 := KB1.at 0); (have hKB11 := KB1.at 1); (simp at hKB10 hKB11))
    | fail)
  have KE := bput (bput K1 0 (.string ⟨#[]⟩)) 1 (.string ⟨#[]⟩)
  have bE := (p4.setCell (p := ⟨w.heap.size + 1 + 1, 0, none⟩) (show w.heap.size ≤ w.heap.size + 1 + 1 by omega) (.string ⟨#[]⟩)).setCell (p := ⟨w.heap.size + 1 + 1, 1, none⟩) (show w.heap.size ≤ w.heap.size + 1 + 1 by omega) (.string ⟨#[]⟩)
  have q0 := KE.at 0
  have q1 := KE.at 1
  simp at q0 q1
  exact bodyPost_ret (v := .tuple #[.agg #[.string ⟨#[]⟩, .string ⟨#[]⟩], .int .i64 1]) (by simp [results, Tryz.results14, go_sem, q0, q1]) rfl ⟨rfl, bE⟩
set_option maxRecDepth 100000 in
set_option maxHeartbeats 3200000 in
theorem RRound_ok (n d m k : ByteArray) (way z : Int) (r s t : Rat) (u v : ByteArray) (er : Int) (w : World) (hz : decide (z ≤ 0) = false) (TW : ∀ x, Below w.heap.size w x → Calls Tryz.prog 61 #[.agg #[.string n, .string d], .agg #[.string m, .string k]] x fun e w' => e = .returned (.int .i64 0) ∧ Below x.heap.size x w') (I1 : ∀ x, Below w.heap.size w x → Calls Tryz.prog 52 #[.agg #[.string n, .string d]] x (Qf r x)) (I2 : ∀ x, Below w.heap.size w x → Calls Tryz.prog 52 #[.agg #[.string m, .string k]] x (Qf s x)) (SG : ∀ x v1, L.IsQ x v1 s → Calls Tryz.prog 53 #[v1] x fun e w' => e = .returned (.int .i64 z) ∧ Below x.heap.size x w') (MO : ∀ x, Calls Tryz.prog 62 #[.int .i64 way] x fun e w' => e = .returned (.bool true) ∧ Below x.heap.size x w') (TO : ∀ x v1 v2, L.IsQ x v1 r → L.IsQ x v2 s → Calls Tryz.prog 63 #[v1, v2, .int .i64 way] x (Qf t x)) (OU : ∀ x v1, L.IsQ x v1 t → Calls Tryz.prog 46 #[v1] x fun e w' => e = .returned (.tuple #[.agg #[.string u, .string v], .int .i64 er]) ∧ Below x.heap.size x w') : Calls Tryz.prog 14 #[.agg #[.string n, .string d], .agg #[.string m, .string k], .int .i64 way] w fun e w' => e = .returned (.tuple #[.agg #[.string u, .string v], .int .i64 er]) ∧ Below w.heap.size w w' := by
  have KA := (((Blk.new w #[.string n, .string d] 23).alloc (.cells #[.string m, .string k] 23)).alloc (.cells #[.string ⟨#[]⟩, .string ⟨#[]⟩] 23))
  have KB := ((Blk.new (w.alloc (.cells #[.string n, .string d] 23)) #[.string m, .string k] 23).alloc (.cells #[.string ⟨#[]⟩, .string ⟨#[]⟩] 23))
  have KR := (Blk.new ((w.alloc (.cells #[.string n, .string d] 23)).alloc (.cells #[.string m, .string k] 23)) #[.string ⟨#[]⟩, .string ⟨#[]⟩] 23)
  have pr : Below w.heap.size w (((w.alloc (.cells #[.string n, .string d] 23)).alloc (.cells #[.string m, .string k] 23)).alloc (.cells #[.string ⟨#[]⟩, .string ⟨#[]⟩] 23)) := ((((Below.refl _ _).alloc (by simp; try omega) _).alloc (by simp; try omega) _).alloc (by simp; try omega) _)
  simp only [World.size_alloc] at KB KR
  go_enter Tryz.func14, Tryz.ntmps14
  go_wp2_with (first
    | (go_at_call 62; (have mk4 := p3); (refine (MO _).mono ?_); (rintro e w4 ⟨rfl, b4⟩); (have p4 := bel' p3 b4); (have KA4 := KA3.below b4 KA3.lt); (have KB4 := KB3.below b4 KB3.lt); (have KR4 := KR3.below b4 KR3.lt); (have NB2_4 := NB2_3.grow b4); (have q2_4 := q2_3.grow b4); (have hKA40 := KA4.at 0); (have hKA41 := KA4.at 1); (simp at hKA40 hKA41); (have rNB240 := NB2_4.c0); (have rNB241 := NB2_4.c1); (have rNB242 := NB2_4.c2))
    | (go_at_call 53; (have mk3 := p2); (refine (SG _ _ q2).mono ?_); (rintro e w3 ⟨rfl, b3⟩); (have p3 := bel' p2 b3); (have KA3 := KA2.below b3 KA2.lt); (have KB3 := KB2.below b3 KB2.lt); (have KR3 := KR2.below b3 KR2.lt); (have NB2_3 := NB2.grow b3); (have q2_3 := q2.grow b3); (have hKA30 := KA3.at 0); (have hKA31 := KA3.at 1); (simp at hKA30 hKA31); (have rNB230 := NB2_3.c0); (have rNB231 := NB2_3.c1); (have rNB232 := NB2_3.c2))
    | (go_at_call 52; (have mk2 := p1); (refine (I2 _ p1).mono ?_); (rintro e w2 ⟨g2, a2, l2, c2, a2', l2', c2', rfl, t2, b2⟩); (have al2 := (Below.refl w2.heap.size w2).alloc (Nat.le_refl _) (.cells #[.bool g2, .slice a2 l2 c2, .slice a2' l2' c2'] 56)); (have NB2 := Rb.new w2 (.bool g2) (.slice a2 l2 c2) (.slice a2' l2' c2') 56); (have bb2 := bel' b2 al2); (have p2 := bel' p1 bb2); (have KA2 := KA1.below bb2 KA1.lt); (have KB2 := KB1.below bb2 KB1.lt); (have KR2 := KR1.below bb2 KR1.lt); (have rNB220 := NB2.c0); (have rNB221 := NB2.c1); (have rNB222 := NB2.c2); (have q2 := t2.grow al2))
    | (go_at_call 61; (refine (TW _ pr).mono ?_); (rintro e w1 ⟨rfl, b1⟩); (have p1 := bel' pr b1); (have KA1 := KA.below b1 KA.lt); (have KB1 := KB.below b1 KB.lt); (have KR1 := KR.below b1 KR.lt); (have hKB10 := KB1.at 0); (have hKB11 := KB1.at 1); (simp at hKB10 hKB11))
    | fail)
  have hX : w.heap.size + 1 + 1 < w2.heap.size := Nat.lt_of_lt_of_le KR1.lt b2.size
  generalize w2.heap.size = X at *
  have hX1 : X ≠ w.heap.size + 1 + 1 := by omega
  have hX2 : w.heap.size + 1 + 1 ≠ X := by omega
  have hA1 : w.heap.size ≠ w.heap.size + 1 + 1 := by omega
  have hA2 : w.heap.size + 1 + 1 ≠ w.heap.size := by omega
  have s0 := KA4.at 0
  have s1 := KA4.at 1
  simp at s0 s1
  have s2 := NB2_4.c0
  have s3 := NB2_4.c1
  have s4 := NB2_4.c2
  go_region_held3 (fun x => x.cell? ⟨w.heap.size, 0, none⟩ = some (.string n) ∧ x.cell? ⟨w.heap.size, 1, none⟩ = some (.string d) ∧ x.cell? ⟨X, 0, none⟩ = some (.bool g2) ∧ x.cell? ⟨X, 1, none⟩ = some (.slice a2 l2 c2) ∧ x.cell? ⟨X, 2, none⟩ = some (.slice a2' l2' c2')) (go_keep) (first
    | (go_at_call 46; refine (OU _ _ t6).mono ?_; rintro e w7 ⟨rfl, b7⟩; have d7 := bel' d6 b7; have v70 := (KA4.below d7 KA4.lt).at 0; have v71 := (KA4.below d7 KA4.lt).at 1; simp at v70 v71; have v72 := (NB2_4.grow d7).c0; have v73 := (NB2_4.grow d7).c1; have v74 := (NB2_4.grow d7).c2; have K1 := KR4.below d7 KR4.lt; have z0 := K1.at 0; have z1 := K1.at 1; have y0 := K1.free 0; have y1 := K1.free 1; simp at z0 z1)
    | (go_at_call 63; refine (TO _ _ _ t5 (q2_4.grow d5)).mono ?_; rintro e w6 ⟨g6, a6, l6, c6, a6', l6', c6', rfl, t6, b6⟩; have d6 := bel' d5 b6; have v60 := (KA4.below d6 KA4.lt).at 0; have v61 := (KA4.below d6 KA4.lt).at 1; simp at v60 v61; have v62 := (NB2_4.grow d6).c0; have v63 := (NB2_4.grow d6).c1; have v64 := (NB2_4.grow d6).c2)
    | (go_at_call 52; refine (I1 _ p4.drew).mono ?_; rintro e w5 ⟨g5, a5, l5, c5, a5', l5', c5', rfl, t5, b5⟩; have d5 := undrew b5; have v50 := (KA4.below d5 KA4.lt).at 0; have v51 := (KA4.below d5 KA4.lt).at 1; simp at v50 v51; have v52 := (NB2_4.grow d5).c0; have v53 := (NB2_4.grow d5).c1; have v54 := (NB2_4.grow d5).c2)
    | fail)
  go_wp2_with fail
  have p9 := bel' p4 d7
  have KE := bput (bput K1 0 (.string u)) 1 (.string v)
  have bE := (p9.setCell (p := ⟨w.heap.size + 1 + 1, 0, none⟩) (show w.heap.size ≤ w.heap.size + 1 + 1 by omega) (.string u)).setCell (p := ⟨w.heap.size + 1 + 1, 1, none⟩) (show w.heap.size ≤ w.heap.size + 1 + 1 by omega) (.string v)
  have q0 := KE.at 0
  have q1 := KE.at 1
  simp at q0 q1
  exact bodyPost_ret (v := .tuple #[.agg #[.string u, .string v], .int .i64 er]) (by simp [results, Tryz.results14, go_sem, q0, q1]) rfl ⟨rfl, bE⟩
end Go.Proofs.YtebilgnmnambnaaGreatDoor.Mo

namespace Go.Proofs.YtebilgnmnambnaaGreatDoor.Mo
open Go.RowKit Tn
end Go.Proofs.YtebilgnmnambnaaGreatDoor.Mo

namespace Go.Proofs.YtebilgnmnambnaaGreatDoor.L
open Go.RowKit Tl Go.Lib
set_option maxRecDepth 100000 in
set_option maxHeartbeats 3200000 in
theorem out_long (g : Bool) (a1 a2 : Option Addr) (m1 c1 m2 c2 : Nat) (s t : ByteArray) (w : World) (hl : (s.size : Int) > 4096 ∨ (¬ (s.size : Int) > 4096 ∧ (t.size : Int) > 4096))
    (T1 : ∀ x, Below w.heap.size w x → Calls Tryz.prog 55 #[.slice a1 m1 c1] x fun e w' => e = .returned (.string s) ∧ Below x.heap.size x w')
    (T2 : ∀ x, Below w.heap.size w x → Calls Tryz.prog 55 #[.slice a2 m2 c2] x fun e w' => e = .returned (.string t) ∧ Below x.heap.size x w') :
    Calls Tryz.prog 46 #[.agg #[.bool g, .slice a1 m1 c1, .slice a2 m2 c2]] w fun e w' => e = .returned (.tuple #[.agg #[.string ⟨#[]⟩, .string ⟨#[]⟩], .int .i64 3]) ∧ Below w.heap.size w w' := by
  have K0 := (Blk.new w #[.bool g, .slice a1 m1 c1, .slice a2 m2 c2] 56).alloc (.cells #[.string ⟨#[]⟩, .string ⟨#[]⟩] 23)
  have KR := Blk.new (w.alloc (.cells #[.bool g, .slice a1 m1 c1, .slice a2 m2 c2] 56)) #[.string ⟨#[]⟩, .string ⟨#[]⟩] 23
  simp only [World.size_alloc] at KR
  have pr : Below w.heap.size w ((w.alloc (.cells #[.bool g, .slice a1 m1 c1, .slice a2 m2 c2] 56)).alloc (.cells #[.string ⟨#[]⟩, .string ⟨#[]⟩] 23)) := ((Below.refl _ _).alloc (Nat.le_refl _) _).alloc (by simp) _
  go_enter Tryz.func46, Tryz.ntmps46
  go_wp2_with fail
  generalize (w.alloc (.cells #[.bool g, .slice a1 m1 c1, .slice a2 m2 c2] 56)).alloc (.cells #[.string ⟨#[]⟩, .string ⟨#[]⟩] 23) = W at *
  go_cut [4, 5] from 6 to 11 (fun x y wc => x = .string s ∧ y = .string t ∧ Below W.heap.size W wc)
  case first =>
    rename_i hm hJ
    refine wp_region_held (S := fun _ => True) (by kernel_rfl) (any_inv (fun listed a x => ∃ (y0 y1 y2 y3 y4 y5 : Bool) (t6 t7 t8 t9 t10 t11 : Value) (z4 z5 : Value), a = ⟨#[.agg #[.bool g, .slice a1 m1 c1, .slice a2 m2 c2], .pointer (some ⟨w.heap.size, 0, none⟩), .pointer (some ⟨w.heap.size + 1, 0, none⟩), .int .i64 0, z4, z5, t6, t7, t8, t9, t10, t11, undef, undef, undef, undef, undef, undef, undef, undef, undef, undef, undef, undef, undef, undef, undef, undef, undef], []⟩ ∧ ((listed = #[y0, y1, y2, y3, y4, y5, false, false] ∧ OQ1 W x (.pointer (some ⟨w.heap.size, 1, none⟩)) (.slice a1 m1 c1) (.string s) (.pointer (some ⟨w.heap.size, 2, none⟩)) (.slice a2 m2 c2) (.string t) y0 y1 y2 y3 y4 y5 t6 t7 t8 t9 t10 t11 ∧ z4 = undef ∧ z5 = undef) ∨ (listed = #[true, true, true, true, true, true, true, false] ∧ t8 = .string s ∧ t11 = .string t ∧ z4 = .string s ∧ z5 = undef ∧ Below W.heap.size W x) ∨ (listed = #[true, true, true, true, true, true, true, true] ∧ t8 = .string s ∧ t11 = .string t ∧ z4 = .string s ∧ z5 = .string t ∧ Below W.heap.size W x))) ?_ ?_ _ _ _ _ (by decide) ?_)
    · rintro listed a x i ⟨y0, y1, y2, y3, y4, y5, t6, t7, t8, t9, t10, t11, z4, z5, rfl, h⟩ hi
      have hr : i < 8 := List.mem_range.1 (List.mem_filter.1 hi).1
      have hc := (List.mem_filter.1 hi).2
      rcases h with ⟨rfl, h⟩ | ⟨rfl, h⟩ | ⟨rfl, h⟩
      · rcases (show i = 0 ∨ i = 1 ∨ i = 2 ∨ i = 3 ∨ i = 4 ∨ i = 5 ∨ i = 6 ∨ i = 7 by omega) with rfl | rfl | rfl | rfl | rfl | rfl | rfl | rfl
        · obtain ⟨h, rfl, rfl⟩ := h
          clear hc hi
          refine wpOp_step rfl (fun K hK0 => ?_)
          have hK : Hid _ := hK0
          clear hK0
          rw [if_pos (by rfl)]
          go_wp2_with fail
          exact hK.out _ _ ⟨true,_,_,_,_,_,.pointer (some ⟨w.heap.size, 1, none⟩),_,_,_,_,_,undef,undef,rfl,Or.inl ⟨rfl, ⟨{ h with o0 := fun _ => rfl }, rfl, rfl⟩⟩⟩
        · obtain ⟨h, rfl, rfl⟩ := h
          have e0 : y0 = true := by
            revert hc
            cases y0 <;> simp [Region.binds]
          have r0 := h.o0 e0
          subst r0
          clear hc hi
          have kd := ((K0.below h.bel K0.lt).at 1)
          simp at kd
          refine wpOp_step rfl (fun K hK0 => ?_)
          have hK : Hid _ := hK0
          clear hK0
          rw [if_pos (by rfl)]
          go_wp2_with fail
          exact hK.out _ _ ⟨_,true,_,_,_,_,_,.slice a1 m1 c1,_,_,_,_,undef,undef,rfl,Or.inl ⟨rfl, ⟨{ h with o1 := fun _ => rfl }, rfl, rfl⟩⟩⟩
        · obtain ⟨h, rfl, rfl⟩ := h
          have e1 : y1 = true := by
            revert hc
            cases y1 <;> simp [Region.binds]
          have r1 := h.o1 e1
          subst r1
          clear hc hi
          refine wpOp_step rfl (fun K hK0 => ?_)
          have hK : Hid _ := hK0
          clear hK0
          rw [if_pos (by rfl)]
          go_wp2_with (first | (go_at_call 55; go_must (refine (T1 x (bel' pr h.bel)).mono ?_; rintro e x2 ⟨rfl, bb⟩)) | fail)
          exact hK.out _ _ ⟨_,_,true,_,_,_,_,_,_,_,_,_,undef,undef,rfl,Or.inl ⟨rfl, ⟨{ h.grow bb with o2 := fun _ => rfl }, rfl, rfl⟩⟩⟩
        · obtain ⟨h, rfl, rfl⟩ := h
          clear hc hi
          refine wpOp_step rfl (fun K hK0 => ?_)
          have hK : Hid _ := hK0
          clear hK0
          rw [if_pos (by rfl)]
          go_wp2_with fail
          exact hK.out _ _ ⟨_,_,_,true,_,_,_,_,_,.pointer (some ⟨w.heap.size, 2, none⟩),_,_,undef,undef,rfl,Or.inl ⟨rfl, ⟨{ h with o3 := fun _ => rfl, d4_3 := fun _ => rfl }, rfl, rfl⟩⟩⟩
        · obtain ⟨h, rfl, rfl⟩ := h
          have e3 : y3 = true := by
            revert hc
            cases y3 <;> simp [Region.binds]
          have r3 := h.o3 e3
          subst r3
          clear hc hi
          have kd := ((K0.below h.bel K0.lt).at 2)
          simp at kd
          refine wpOp_step rfl (fun K hK0 => ?_)
          have hK : Hid _ := hK0
          clear hK0
          rw [if_pos (by rfl)]
          go_wp2_with fail
          exact hK.out _ _ ⟨_,_,_,_,true,_,_,_,_,_,.slice a2 m2 c2,_,undef,undef,rfl,Or.inl ⟨rfl, ⟨{ h with o4 := fun _ => rfl, d4_3 := fun _ => e3, d5_4 := fun _ => rfl }, rfl, rfl⟩⟩⟩
        · obtain ⟨h, rfl, rfl⟩ := h
          have e4 : y4 = true := by
            revert hc
            cases y4 <;> simp [Region.binds]
          have r4 := h.o4 e4
          subst r4
          clear hc hi
          refine wpOp_step rfl (fun K hK0 => ?_)
          have hK : Hid _ := hK0
          clear hK0
          rw [if_pos (by rfl)]
          go_wp2_with (first | (go_at_call 55; go_must (refine (T2 x (bel' pr h.bel)).mono ?_; rintro e x2 ⟨rfl, bb⟩)) | fail)
          exact hK.out _ _ ⟨_,_,_,_,_,true,_,_,_,_,_,_,undef,undef,rfl,Or.inl ⟨rfl, ⟨{ h.grow bb with o5 := fun _ => rfl, d5_4 := fun _ => e4 }, rfl, rfl⟩⟩⟩
        · obtain ⟨h, rfl, rfl⟩ := h
          have e0 : y0 = true := by
            revert hc
            cases y0 <;> simp [Region.binds]
          have e1 : y1 = true := by
            revert hc
            cases y1 <;> simp [Region.binds]
          have e2 : y2 = true := by
            revert hc
            cases y2 <;> simp [Region.binds]
          have e5 : y5 = true := by
            revert hc
            cases y5 <;> simp [Region.binds]
          have e4 := h.d5_4 e5
          have e3 := h.d4_3 e4
          have r2 := h.o2 e2
          subst r2
          have r5 := h.o5 e5
          subst r5
          clear hc hi
          subst e0 e1 e2 e3 e4 e5
          have bl := h.bel
          clear h
          refine wpOp_step rfl (fun K hK0 => ?_)
          have hK : Hid _ := hK0
          clear hK0
          rw [if_pos (by rfl)]
          go_wp2_with fail
          exact hK.out _ _ ⟨true,true,true,true,true,true,_,_,_,_,_,_,_,_,rfl,Or.inr (Or.inl ⟨rfl, rfl, rfl, rfl, rfl, bl⟩)⟩
        · simp [Region.binds] at hc
      · rcases (show i = 0 ∨ i = 1 ∨ i = 2 ∨ i = 3 ∨ i = 4 ∨ i = 5 ∨ i = 6 ∨ i = 7 by omega) with rfl | rfl | rfl | rfl | rfl | rfl | rfl | rfl
        · simp at hc
        · simp at hc
        · simp at hc
        · simp at hc
        · simp at hc
        · simp at hc
        · simp at hc
        · clear hc hi
          obtain ⟨rfl, rfl, rfl, rfl, bl⟩ := h
          refine wpOp_step rfl (fun K hK0 => ?_)
          have hK : Hid _ := hK0
          clear hK0
          rw [if_pos (by rfl)]
          go_wp2_with fail
          exact hK.out _ _ ⟨true,true,true,true,true,true,_,_,_,_,_,_,_,_,rfl,Or.inr (Or.inr (⟨rfl, rfl, rfl, rfl, rfl, bl⟩))⟩
      · rcases (show i = 0 ∨ i = 1 ∨ i = 2 ∨ i = 3 ∨ i = 4 ∨ i = 5 ∨ i = 6 ∨ i = 7 by omega) with rfl | rfl | rfl | rfl | rfl | rfl | rfl | rfl <;> simp at hc
    · rintro listed a x ⟨y0, y1, y2, y3, y4, y5, t6, t7, t8, t9, t10, t11, z4, z5, rfl, h⟩ hn
      have al := all_listed (by decide +kernel) hn
      rcases h with ⟨rfl, h⟩ | ⟨rfl, h⟩ | ⟨rfl, h⟩
      · have z := al 6 (by decide)
        simp at z
      · have z := al 7 (by decide)
        simp at z
      · obtain ⟨rfl, rfl, rfl, rfl, bl⟩ := h
        refine hJ _ _ ?_
        go_meet
        case rel => exact ⟨rfl, rfl, bl⟩
    · exact ⟨false, false, false, false, false, false, undef, undef, undef, undef, undef, undef, undef, undef, rfl, Or.inl ⟨rfl, ⟨{ bel := (Below.refl _ _).drew, o0 := (by intro q; cases q), o1 := (by intro q; cases q), o2 := (by intro q; cases q), o3 := (by intro q; cases q), o4 := (by intro q; cases q), o5 := (by intro q; cases q), d4_3 := (by intro q; cases q), d5_4 := (by intro q; cases q) }, rfl, rfl⟩⟩⟩
  case rest =>
    obtain ⟨rfl, rfl, b2⟩ := hcut
    have p2 := bel pr b2
    have KR2 := KR.below b2 KR.lt
    have z0 := KR2.at 0
    have z1 := KR2.at 1
    have y0 := KR2.free 0
    have y1 := KR2.free 1
    simp at z0 z1
    clear T1 T2 KR K0 pr b2
    rename World => w2
    rcases hl with s1 | ⟨s1, s2⟩
    all_goals
     go_wp2_with fail
     have KE := bput (bput KR2 0 (.string ⟨#[]⟩)) 1 (.string ⟨#[]⟩)
     have bE := (p2.setCell (p := ⟨w.heap.size + 1, 0, none⟩) (show w.heap.size ≤ w.heap.size + 1 by omega) (.string ⟨#[]⟩)).setCell (p := ⟨w.heap.size + 1, 1, none⟩) (show w.heap.size ≤ w.heap.size + 1 by omega) (.string ⟨#[]⟩)
     have q0 := KE.at 0
     have q1 := KE.at 1
     simp at q0 q1
     exact bodyPost_ret (v := .tuple #[.agg #[.string ⟨#[]⟩, .string ⟨#[]⟩], .int .i64 3]) (by simp [results, Tryz.results46, go_sem, q0, q1]) rfl ⟨rfl, bE⟩
theorem Out_any (v : Value) (r : Rat) (K : Nat) (w : World) (h : IsQ w v r) (hK : QS r K) (hK' : K ≤ 1000000000) :
    Calls Tryz.prog 46 #[v] w fun e w' => e = .returned (.tuple #[(Mo.wrA r).1, .int .i64 (Mo.wrA r).2]) ∧ Below w.heap.size w w' := by
  by_cases l : (decDigits r.num.natAbs).length ≤ 4096 ∧ (decDigits r.den).length ≤ 4096
  · rw [Mo.wrA_short l.1 l.2]
    exact Out_q v r K w h hK hK' l.1 l.2
  · rw [Mo.wrA_long l]
    obtain ⟨ns, ds, a1, a2, c1, c2, rfl, h1, n1, v1, h2, n2, v2⟩ := h
    have k1 : ns.length ≤ K := len_of_lt h1.1 n1 (by rw [v1]; exact hK.1)
    have k2 : ds.length ≤ K := len_of_lt h2.1 n2 (by rw [v2]; exact hK.2)
    have T1 := fun x (b : Below w.heap.size w x) => Text_any _ ns _ x (h1.grow b) n1 (by omega) v1
    have T2 := fun x (b : Below w.heap.size w x) => Text_any _ ds _ x (h2.grow b) n2 (by omega) v2
    by_cases l1 : (decDigits r.num.natAbs).length ≤ 4096
    · have l2 : ¬ (decDigits r.den).length ≤ 4096 := fun h => l ⟨l1, h⟩
      exact out_long _ a1 a2 _ c1 _ c2 (Mo.sB (decDigits r.num.natAbs)) (Mo.sB (decDigits r.den)) w (Or.inr ⟨by rw [Mo.sB_size]; omega, by rw [Mo.sB_size]; omega⟩) T1 T2
    · exact out_long _ a1 a2 _ c1 _ c2 (Mo.sB (decDigits r.num.natAbs)) (Mo.sB (decDigits r.den)) w (Or.inl (by rw [Mo.sB_size]; omega)) T1 T2
end Go.Proofs.YtebilgnmnambnaaGreatDoor.L
