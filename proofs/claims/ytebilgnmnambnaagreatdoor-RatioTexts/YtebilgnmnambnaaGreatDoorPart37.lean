import Derived.Test.YtebilgnmnambnaaGreatDoorPart12
import Derived.Test.YtebilgnmnambnaaGreatDoorPart36
import Derived.Test.YtebilgnmnambnaaGreatDoorPart10
import Derived.Test.YtebilgnmnambnaaGreatDoorPart34
import Derived.Test.YtebilgnmnambnaaGreatDoorPart23
import Derived.Deep.RegionHeld3
import Derived.Test.YtebilgnmnambnaaGreatDoorPart27
import Derived.Test.YtebilgnmnambnaaGreatDoorPart21
import Derived.Test.YtebilgnmnambnaaGreatDoorPart06
import Derived.Test.YtebilgnmnambnaaGreatDoorPart32
import Derived.Deep.DeepCutAuto

namespace Go.Proofs.YtebilgnmnambnaaGreatDoor.L
open Go.RowKit Tl Go.Lib
set_option maxRecDepth 100000 in
set_option maxHeartbeats 3200000 in
theorem out_long (g : Bool) (a1 a2 : Option Addr) (m1 c1 m2 c2 : Nat) (s t : ByteArray) (w : World) (hl : (s.size : Int) > 4096 ∨ (¬ (s.size : Int) > 4096 ∧ (t.size : Int) > 4096))
    (T1 : ∀ x, Below w.heap.size w x → Calls Tryz.prog 55 #[.slice a1 m1 c1] x fun e w' => e = .returned (.string s) ∧ Below x.heap.size x w')
    (T2 : ∀ x, Below w.heap.size w x → Calls Tryz.prog 55 #[.slice a2 m2 c2] x fun e w' => e = .returned (.string t) ∧ Below x.heap.size x w') :
    Calls Tryz.prog 46 #[.agg #[.bool g, .slice a1 m1 c1, .slice a2 m2 c2]] w fun e w' => e = .returned (.tuple #[.agg #[.string ⟨#[]⟩, .string ⟨#[]⟩], .int .i64 3]) ∧ Below w.heap.size w w' := by
  have K0 := (Blk.new w #[.bool g, .slice a1 m1 c1, .slice a2 m2 c2] 56).alloc (.cells #[.string ⟨#[]⟩, .string ⟨#[]⟩] 23)
  have KR := Blk.new (w.alloc (.cells #[.bool g, .slice a1 m1 c1, .slice a2 m2 c2] 56)) #[.string ⟨#[]⟩, .string ⟨#[]⟩] 23
  simp only [World.size_alloc] at KR
  have pr : Below w.heap.size w ((w.alloc (.cells #[.bool g, .slice a1 m1 c1, .slice a2 m2 c2] 56)).alloc (.cells #[.string ⟨#[]⟩, .string ⟨#[]⟩] 23)) := ((Below.refl _ _).alloc (Nat.le_refl _) _).alloc (by simp) _
  go_enter Tryz.func46, Tryz.ntmps46
  go_wp2_with fail
  generalize (w.alloc (.cells #[.bool g, .slice a1 m1 c1, .slice a2 m2 c2] 56)).alloc (.cells #[.string ⟨#[]⟩, .string ⟨#[]⟩] 23) = W at *
  go_cut [4, 5] from 6 to 11 (fun x y wc => x = .string s ∧ y = .string t ∧ Below W.heap.size W wc)
  case first =>
    rename_i hm hJ
    refine wp_region_held (S := fun _ => True) (by kernel_rfl) (any_inv (fun listed a x => ∃ (y0 y1 y2 y3 y4 y5 : Bool) (t6 t7 t8 t9 t10 t11 : Value) (z4 z5 : Value), a = ⟨#[.agg #[.bool g, .slice a1 m1 c1, .slice a2 m2 c2], .pointer (some ⟨w.heap.size, 0, none⟩), .pointer (some ⟨w.heap.size + 1, 0, none⟩), .int .i64 0, z4, z5, t6, t7, t8, t9, t10, t11, undef, undef, undef, undef, undef, undef, undef, undef, undef, undef, undef, undef, undef, undef, undef, undef, undef], []⟩ ∧ ((listed = #[y0, y1, y2, y3, y4, y5, false, false] ∧ OQ1 W x (.pointer (some ⟨w.heap.size, 1, none⟩)) (.slice a1 m1 c1) (.string s) (.pointer (some ⟨w.heap.size, 2, none⟩)) (.slice a2 m2 c2) (.string t) y0 y1 y2 y3 y4 y5 t6 t7 t8 t9 t10 t11 ∧ z4 = undef ∧ z5 = undef) ∨ (listed = #[true, true, true, true, true, true, true, false] ∧ t8 = .string s ∧ t11 = .string t ∧ z4 = .string s ∧ z5 = undef ∧ Below W.heap.size W x) ∨ (listed = #[true, true, true, true, true, true, true, true] ∧ t8 = .string s ∧ t11 = .string t ∧ z4 = .string s ∧ z5 = .string t ∧ Below W.heap.size W x))) ?_ ?_ _ _ _ _ (by decide) ?_)
    · rintro listed a x i ⟨y0, y1, y2, y3, y4, y5, t6, t7, t8, t9, t10, t11, z4, z5, rfl, h⟩ hi
      have hr : i < 8 := List.mem_range.1 (List.mem_filter.1 hi).1
      have hc := (List.mem_filter.1 hi).2
      rcases h with ⟨rfl, h⟩ | ⟨rfl, h⟩ | ⟨rfl, h⟩
      · rcases (show i = 0 ∨ i = 1 ∨ i = 2 ∨ i = 3 ∨ i = 4 ∨ i = 5 ∨ i = 6 ∨ i = 7 by omega) with rfl | rfl | rfl | rfl | rfl | rfl | rfl | rfl
        · obtain ⟨h, rfl, rfl⟩ := h
          clear hc hi
          refine wpOp_step rfl (fun K hK0 => ?_)
          have hK : Hid _ := hK0
          clear hK0
          rw [if_pos (by rfl)]
          go_wp2_with fail
          exact hK.out _ _ ⟨true,_,_,_,_,_,.pointer (some ⟨w.heap.size, 1, none⟩),_,_,_,_,_,undef,undef,rfl,Or.inl ⟨rfl, ⟨{ h with o0 := fun _ => rfl }, rfl, rfl⟩⟩⟩
        · obtain ⟨h, rfl, rfl⟩ := h
          have e0 : y0 = true := by
            revert hc
            cases y0 <;> simp [Region.binds]
          have r0 := h.o0 e0
          subst r0
          clear hc hi
          have kd := ((K0.below h.bel K0.lt).at 1)
          simp at kd
          refine wpOp_step rfl (fun K hK0 => ?_)
          have hK : Hid _ := hK0
          clear hK0
          rw [if_pos (by rfl)]
          go_wp2_with fail
          exact hK.out _ _ ⟨_,true,_,_,_,_,_,.slice a1 m1 c1,_,_,_,_,undef,undef,rfl,Or.inl ⟨rfl, ⟨{ h with o1 := fun _ => rfl }, rfl, rfl⟩⟩⟩
        · obtain ⟨h, rfl, rfl⟩ := h
          have e1 : y1 = true := by
            revert hc
            cases y1 <;> simp [Region.binds]
          have r1 := h.o1 e1
          subst r1
          clear hc hi
          refine wpOp_step rfl (fun K hK0 => ?_)
          have hK : Hid _ := hK0
          clear hK0
          rw [if_pos (by rfl)]
          go_wp2_with (first | (go_at_call 55; go_must (refine (T1 x (bel' pr h.bel)).mono ?_; rintro e x2 ⟨rfl, bb⟩)) | fail)
          exact hK.out _ _ ⟨_,_,true,_,_,_,_,_,_,_,_,_,undef,undef,rfl,Or.inl ⟨rfl, ⟨{ h.grow bb with o2 := fun _ => rfl }, rfl, rfl⟩⟩⟩
        · obtain ⟨h, rfl, rfl⟩ := h
          clear hc hi
          refine wpOp_step rfl (fun K hK0 => ?_)
          have hK : Hid _ := hK0
          clear hK0
          rw [if_pos (by rfl)]
          go_wp2_with fail
          exact hK.out _ _ ⟨_,_,_,true,_,_,_,_,_,.pointer (some ⟨w.heap.size, 2, none⟩),_,_,undef,undef,rfl,Or.inl ⟨rfl, ⟨{ h with o3 := fun _ => rfl, d4_3 := fun _ => rfl }, rfl, rfl⟩⟩⟩
        · obtain ⟨h, rfl, rfl⟩ := h
          have e3 : y3 = true := by
            revert hc
            cases y3 <;> simp [Region.binds]
          have r3 := h.o3 e3
          subst r3
          clear hc hi
          have kd := ((K0.below h.bel K0.lt).at 2)
          simp at kd
          refine wpOp_step rfl (fun K hK0 => ?_)
          have hK : Hid _ := hK0
          clear hK0
          rw [if_pos (by rfl)]
          go_wp2_with fail
          exact hK.out _ _ ⟨_,_,_,_,true,_,_,_,_,_,.slice a2 m2 c2,_,undef,undef,rfl,Or.inl ⟨rfl, ⟨{ h with o4 := fun _ => rfl, d4_3 := fun _ => e3, d5_4 := fun _ => rfl }, rfl, rfl⟩⟩⟩
        · obtain ⟨h, rfl, rfl⟩ := h
          have e4 : y4 = true := by
            revert hc
            cases y4 <;> simp [Region.binds]
          have r4 := h.o4 e4
          subst r4
          clear hc hi
          refine wpOp_step rfl (fun K hK0 => ?_)
          have hK : Hid _ := hK0
          clear hK0
          rw [if_pos (by rfl)]
          go_wp2_with (first | (go_at_call 55; go_must (refine (T2 x (bel' pr h.bel)).mono ?_; rintro e x2 ⟨rfl, bb⟩)) | fail)
          exact hK.out _ _ ⟨_,_,_,_,_,true,_,_,_,_,_,_,undef,undef,rfl,Or.inl ⟨rfl, ⟨{ h.grow bb with o5 := fun _ => rfl, d5_4 := fun _ => e4 }, rfl, rfl⟩⟩⟩
        · obtain ⟨h, rfl, rfl⟩ := h
          have e0 : y0 = true := by
            revert hc
            cases y0 <;> simp [Region.binds]
          have e1 : y1 = true := by
            revert hc
            cases y1 <;> simp [Region.binds]
          have e2 : y2 = true := by
            revert hc
            cases y2 <;> simp [Region.binds]
          have e5 : y5 = true := by
            revert hc
            cases y5 <;> simp [Region.binds]
          have e4 := h.d5_4 e5
          have e3 := h.d4_3 e4
          have r2 := h.o2 e2
          subst r2
          have r5 := h.o5 e5
          subst r5
          clear hc hi
          subst e0 e1 e2 e3 e4 e5
          have bl := h.bel
          clear h
          refine wpOp_step rfl (fun K hK0 => ?_)
          have hK : Hid _ := hK0
          clear hK0
          rw [if_pos (by rfl)]
          go_wp2_with fail
          exact hK.out _ _ ⟨true,true,true,true,true,true,_,_,_,_,_,_,_,_,rfl,Or.inr (Or.inl ⟨rfl, rfl, rfl, rfl, rfl, bl⟩)⟩
        · simp [Region.binds] at hc
      · rcases (show i = 0 ∨ i = 1 ∨ i = 2 ∨ i = 3 ∨ i = 4 ∨ i = 5 ∨ i = 6 ∨ i = 7 by omega) with rfl | rfl | rfl | rfl | rfl | rfl | rfl | rfl
        · simp at hc
        · simp at hc
        · simp at hc
        · simp at hc
        · simp at hc
        · simp at hc
        · simp at hc
        · clear hc hi
          obtain ⟨rfl, rfl, rfl, rfl, bl⟩ := h
          refine wpOp_step rfl (fun K hK0 => ?_)
          have hK : Hid _ := hK0
          clear hK0
          rw [if_pos (by rfl)]
          go_wp2_with fail
          exact hK.out _ _ ⟨true,true,true,true,true,true,_,_,_,_,_,_,_,_,rfl,Or.inr (Or.inr (⟨rfl, rfl, rfl, rfl, rfl, bl⟩))⟩
      · rcases (show i = 0 ∨ i = 1 ∨ i = 2 ∨ i = 3 ∨ i = 4 ∨ i = 5 ∨ i = 6 ∨ i = 7 by omega) with rfl | rfl | rfl | rfl | rfl | rfl | rfl | rfl <;> simp at hc
    · rintro listed a x ⟨y0, y1, y2, y3, y4, y5, t6, t7, t8, t9, t10, t11, z4, z5, rfl, h⟩ hn
      have al := all_listed (by decide +kernel) hn
      rcases h with ⟨rfl, h⟩ | ⟨rfl, h⟩ | ⟨rfl, h⟩
      · have z := al 6 (by decide)
        simp at z
      · have z := al 7 (by decide)
        simp at z
      · obtain ⟨rfl, rfl, rfl, rfl, bl⟩ := h
        refine hJ _ _ ?_
        go_meet
        case rel => exact ⟨rfl, rfl, bl⟩
    · exact ⟨false, false, false, false, false, false, undef, undef, undef, undef, undef, undef, undef, undef, rfl, Or.inl ⟨rfl, ⟨{ bel := (Below.refl _ _).drew, o0 := (by intro q; cases q), o1 := (by intro q; cases q), o2 := (by intro q; cases q), o3 := (by intro q; cases q), o4 := (by intro q; cases q), o5 := (by intro q; cases q), d4_3 := (by intro q; cases q), d5_4 := (by intro q; cases q) }, rfl, rfl⟩⟩⟩
  case rest =>
    obtain ⟨rfl, rfl, b2⟩ := hcut
    have p2 := bel pr b2
    have KR2 := KR.below b2 KR.lt
    have z0 := KR2.at 0
    have z1 := KR2.at 1
    have y0 := KR2.free 0
    have y1 := KR2.free 1
    simp at z0 z1
    clear T1 T2 KR K0 pr b2
    rename World => w2
    rcases hl with s1 | ⟨s1, s2⟩
    all_goals
     go_wp2_with fail
     have KE := bput (bput KR2 0 (.string ⟨#[]⟩)) 1 (.string ⟨#[]⟩)
     have bE := (p2.setCell (p := ⟨w.heap.size + 1, 0, none⟩) (show w.heap.size ≤ w.heap.size + 1 by omega) (.string ⟨#[]⟩)).setCell (p := ⟨w.heap.size + 1, 1, none⟩) (show w.heap.size ≤ w.heap.size + 1 by omega) (.string ⟨#[]⟩)
     have q0 := KE.at 0
     have q1 := KE.at 1
     simp at q0 q1
     exact bodyPost_ret (v := .tuple #[.agg #[.string ⟨#[]⟩, .string ⟨#[]⟩], .int .i64 3]) (by simp [results, Tryz.results46, go_sem, q0, q1]) rfl ⟨rfl, bE⟩
theorem Out_any (v : Value) (r : Rat) (K : Nat) (w : World) (h : IsQ w v r) (hK : QS r K) (hK' : K ≤ 1000000000) :
    Calls Tryz.prog 46 #[v] w fun e w' => e = .returned (.tuple #[(Mo.wrA r).1, .int .i64 (Mo.wrA r).2]) ∧ Below w.heap.size w w' := by
  by_cases l : (decDigits r.num.natAbs).length ≤ 4096 ∧ (decDigits r.den).length ≤ 4096
  · rw [Mo.wrA_short l.1 l.2]
    exact Out_q v r K w h hK hK' l.1 l.2
  · rw [Mo.wrA_long l]
    obtain ⟨ns, ds, a1, a2, c1, c2, rfl, h1, n1, v1, h2, n2, v2⟩ := h
    have k1 : ns.length ≤ K := len_of_lt h1.1 n1 (by rw [v1]; exact hK.1)
    have k2 : ds.length ≤ K := len_of_lt h2.1 n2 (by rw [v2]; exact hK.2)
    have T1 := fun x (b : Below w.heap.size w x) => Text_any _ ns _ x (h1.grow b) n1 (by omega) v1
    have T2 := fun x (b : Below w.heap.size w x) => Text_any _ ds _ x (h2.grow b) n2 (by omega) v2
    by_cases l1 : (decDigits r.num.natAbs).length ≤ 4096
    · have l2 : ¬ (decDigits r.den).length ≤ 4096 := fun h => l ⟨l1, h⟩
      exact out_long _ a1 a2 _ c1 _ c2 (Mo.sB (decDigits r.num.natAbs)) (Mo.sB (decDigits r.den)) w (Or.inr ⟨by rw [Mo.sB_size]; omega, by rw [Mo.sB_size]; omega⟩) T1 T2
    · exact out_long _ a1 a2 _ c1 _ c2 (Mo.sB (decDigits r.num.natAbs)) (Mo.sB (decDigits r.den)) w (Or.inl (by rw [Mo.sB_size]; omega)) T1 T2
end Go.Proofs.YtebilgnmnambnaaGreatDoor.L

namespace Go.Proofs.YtebilgnmnambnaaGreatDoor.Mo
open Go.RowKit Ip
def Nl (x : World) (a : Option Addr) (l c : Nat) (N : Int) : Prop := ∃ xs : List Int, L.Rd x (.slice a l c) xs ∧ Tl.Nm xs ∧ Tl.val xs = N
theorem Nl.grow {x x' : World} {a : Option Addr} {l c : Nat} {N : Int} (h : Nl x a l c N) (b : Below x.heap.size x x') : Nl x' a l c N := by
  obtain ⟨xs, r, n, v⟩ := h
  exact ⟨xs, r.grow b, n, v⟩
theorem mul_nl {x : World} {a1 a2 : Option Addr} {l1 c1 l2 c2 : Nat} {A B : Int} {K : Nat} (h1 : Nl x a1 l1 c1 A) (h2 : Nl x a2 l2 c2 B) (hA : A < Tl.pw K) (hB : B < Tl.pw K) (hK : K ≤ 1000000000) : Calls Tryz.prog 78 #[.slice a1 l1 c1, .slice a2 l2 c2] x fun e w' => ∃ a l c, e = .returned (.slice a l c) ∧ Nl w' a l c (A * B) ∧ Below x.heap.size x w' := by
  obtain ⟨xs, r1, n1, rfl⟩ := h1
  obtain ⟨ys, r2, n2, rfl⟩ := h2
  have k1 := L.len_of_lt r1.1 n1 hA
  have k2 := L.len_of_lt r2.1 n2 hB
  refine (L.Mul_any _ _ xs ys x r1 r2 (by omega) (by omega)).mono ?_
  rintro e w' ⟨v, zs, rfl, hr, hn, hv, b⟩
  obtain ⟨a, c, rfl⟩ := L.rd_form hr
  exact ⟨a, _, c, rfl, ⟨zs, hr, hn, hv⟩, b⟩
theorem make_nl {x : World} {a1 a2 : Option Addr} {l1 c1 l2 c2 : Nat} {U V : Int} {K : Nat} (g : Bool) (h1 : Nl x a1 l1 c1 U) (h2 : Nl x a2 l2 c2 V) (hU : U < Tl.pw K) (hV : V < Tl.pw K) (hK : K ≤ 4000000000) (h0 : 0 < V) : Calls Tryz.prog 80 #[.bool g, .slice a1 l1 c1, .slice a2 l2 c2] x (Qf (mkRat (L.sgI g U) V.toNat) x) := by
  obtain ⟨xs, r1, n1, rfl⟩ := h1
  obtain ⟨ys, r2, n2, rfl⟩ := h2
  exact qf_of (L.Make_q g _ _ xs ys K x r1 r2 n1 n2 (L.len_of_lt r1.1 n1 hU) (L.len_of_lt r2.1 n2 hV) (by omega) h0)
theorem add_nl {x : World} {a1 a2 : Option Addr} {l1 c1 l2 c2 : Nat} {A B : Int} {K : Nat} (h1 : Nl x a1 l1 c1 A) (h2 : Nl x a2 l2 c2 B) (hA : A < Tl.pw K) (hB : B < Tl.pw K) (hK : K ≤ 4000000000) : Calls Tryz.prog 79 #[.slice a1 l1 c1, .slice a2 l2 c2] x fun e w' => ∃ a l c, e = .returned (.slice a l c) ∧ Nl w' a l c (A + B) ∧ Below x.heap.size x w' := by
  obtain ⟨xs, r1, n1, rfl⟩ := h1
  obtain ⟨ys, r2, n2, rfl⟩ := h2
  have k1 := L.len_of_lt r1.1 n1 hA
  have k2 := L.len_of_lt r2.1 n2 hB
  refine (L.Add_any _ _ xs ys x r1 r2 (by omega) (by omega)).mono ?_
  rintro e w' ⟨v, zs, rfl, hr, hn, hv, b⟩
  obtain ⟨a, c, rfl⟩ := L.rd_form hr
  exact ⟨a, _, c, rfl, ⟨zs, hr, hn, hv⟩, b⟩
end Go.Proofs.YtebilgnmnambnaaGreatDoor.Mo

namespace Go.Proofs.YtebilgnmnambnaaGreatDoor.Mo
open Go.RowKit Fu Tn Go.Lib Wt
def eb (n L k : Nat) : Nat := n / 2 ^ (L - k)
theorem eb_zero {n L : Nat} (h : n < 2 ^ L) : eb n L 0 = 0 := Nat.div_eq_of_lt h
theorem eb_full (n L : Nat) : eb n L L = n := by unfold eb; rw [Nat.sub_self, Nat.pow_zero, Nat.div_one]
theorem eb_half {n L k : Nat} (h : k < L) : eb n L k = eb n L (k + 1) / 2 := by
  unfold eb
  rw [Nat.div_div_eq_div_mul, ← Nat.pow_succ, show (L - (k + 1)).succ = L - k by omega]
theorem eb_le (n L k : Nat) : eb n L k ≤ n := Nat.div_le_self _ _
theorem pow_bd {A n e : Nat} {m : Nat} (hp : ((A ^ n : Nat) : Int) < pw m) (hm : 1 < pw m) (h : e ≤ n) : ((A ^ e : Nat) : Int) < pw m := by
  by_cases z : A = 0
  · subst z
    have : (0 : Nat) ^ e ≤ 1 := by
      cases e with
      | zero => simp
      | succ e => simp
    omega
  · have := Nat.pow_le_pow_right (show 1 ≤ A by omega) h
    omega
theorem bl_lt (n : Nat) (h : n < 9223372036854775808) : n < 2 ^ Lib.bitLen n ∧ Lib.bitLen n ≤ 64 := by
  by_cases z : n = 0
  · subst z; decide
  · have := bitLen_bd (n : Int) (by omega) (by omega)
    rw [Int.toNat_natCast] at this
    refine ⟨?_, this.2.1⟩
    have h := this.2.2.2
    have e : ((2 ^ Lib.bitLen n : Nat) : Int) = (2 : Int) ^ Lib.bitLen n := by simp
    omega
theorem and_one (a : Nat) (h : a < 9223372036854775808) : bits .and .i64 (a : Int) 1 = ((a % 2 : Nat) : Int) := by
  have a1 : (BitVec.ofInt 64 ((a : Nat) : Int)).toNat = a := by
    rw [BitVec.ofInt_natCast, BitVec.toNat_ofNat]; exact Nat.mod_eq_of_lt (by omega)
  have a2 : (BitVec.ofInt 64 1).toNat = 2 ^ 1 - 1 := by decide
  show IntKind.i64.wrap ((BitVec.ofInt 64 ((a : Nat) : Int) &&& BitVec.ofInt 64 1).toNat : Int) = _
  rw [BitVec.toNat_and, a1, a2, Nat.and_two_pow_sub_one_eq_mod]
  exact wrapI _ (by omega) (by omega)
set_option maxRecDepth 100000 in
set_option maxHeartbeats 1600000 in
theorem Pow_n (p : Option Addr) (l c A n : Nat) (w : World) (hA : Nn w p l c (A : Int)) (hn : n < 9223372036854775808) {K : Nat} (hK0 : 1 < pw K) (hK : K ≤ 400000) (hp : ((A ^ n : Nat) : Int) < pw K) :
    Calls Tryz.prog 66 #[.agg #[.slice p l c], .int .i64 n] w fun e w' => ∃ a l c, e = .returned (.agg #[.slice a l c]) ∧ Nn w' a l c ((A ^ n : Nat) : Int) ∧ Below w.heap.size w w' := by
  have OF := Of_any 1
  have BL := Tryz.bits_Len (n : Int)
  have x0 : IntKind.u64.wrap (n : Int) = n := wrapU _ (by omega) (by omega)
  have B0 := Bx.new w (.slice p l c) 65
  have B1 := B0.alloc (.cells #[.slice none 0 0] 65)
  have B2 := Bx.new (w.alloc (.cells #[.slice p l c] 65)) (.slice none 0 0) 65
  rw [show (w.alloc (.cells #[.slice p l c] 65)).heap.size = w.heap.size + 1 by simp] at B2
  have al := ((Below.refl w.heap.size w).alloc (Nat.le_refl _) (.cells #[.slice p l c] 65)).alloc (by simp) (.cells #[.slice none 0 0] 65)
  go_enter Tryz.func66, Tryz.ntmps66
  go_wp2_with (first
    | (go_at_call 65; go_must (refine (OF _ (by decide) (by decide)).mono ?_; rintro e w1 ⟨r, zs, rfl, q1, n1, v1, b1⟩; obtain ⟨a1, l1, c1, rfl⟩ := q1.shape))
    | (go_at_call 124; go_must (refine (BL _ (by omega) (by omega)).mono ?_; rintro e w2 ⟨rfl, rfl⟩))
    | fail)
  have al1 := (Below.refl w1.heap.size w1).alloc (Nat.le_refl _) (.cells #[.slice a1 l1 c1] 65)
  have b2 := bel' al b1
  have b3 := bel' b2 al1
  have P1 := (B1.below b1).below al1
  have P2 := (B2.below b1).below al1
  have P3 := Bx.new w1 (.slice a1 l1 c1) 65
  have hs : w.heap.size + 2 ≤ w1.heap.size := by have := b1.size; simp at this; omega
  obtain ⟨g, hg⟩ : ∃ g, w1.heap.size = g := ⟨_, rfl⟩
  obtain ⟨L, hL⟩ : ∃ L, Lib.bitLen n = L := ⟨_, rfl⟩
  have l0 := bl_lt n hn
  rw [hL] at l0
  have nP : Nn (w1.alloc (.cells #[.slice a1 l1 c1] 65)) a1 l1 c1 ((A ^ eb n L 0 : Nat) : Int) := Nn.grow ⟨zs, q1, n1, by rw [v1, eb_zero l0.1]; simp⟩ al1
  have nA := hA.grow b3
  rw [Int.toNat_natCast, hL] at BL
  rw [hg] at P3 hs ⊢
  rw [hL]
  generalize w1.alloc (.cells #[.slice a1 l1 c1] 65) = W at *
  clear OF q1 n1 v1 b1 b2 al al1 B0 B1 B2 hg hL
  go_loopw [11] (fun v wr => ∃ (k : Nat) (a : Option Addr) (l' c' : Nat), v = .int .i64 k ∧ k ≤ L ∧ Nn wr a l' c' ((A ^ eb n L k : Nat) : Int) ∧ Nn wr p l c (A : Int) ∧ Bx wr g (.slice a l' c') ∧ Bx wr w.heap.size (.slice p l c) ∧ Bx wr (w.heap.size + 1) (.slice none 0 0) ∧ Below w.heap.size w wr) (fun v _ => L - (RowKit.intOf v).toNat)
  case atStart => exact ⟨0, a1, l1, c1, rfl, Nat.zero_le _, nP, nA, P3, P1, P2, b3⟩
  case round =>
    clear nP nA P1 P2 P3 b3
    obtain ⟨k, a, l', c', rfl, hk, nP, nA, P3, P1, P2, b3⟩ := hrel
    by_cases lt : k < L
    · have k3 := P3.1
      have k1 := P1.1
      have f3 := P3.2
      have E1 : Hid (eb n L k = eb n L (k + 1) / 2) := eb_half lt
      obtain ⟨j, hj⟩ : ∃ j, L = j + 1 := ⟨L - 1, by omega⟩
      have x1 : IntKind.i64.wrap ((L : Int) - 1) = (j : Int) := by rw [show (L : Int) - 1 = (j : Int) by omega]; exact wrapI _ (by omega) (by omega)
      obtain ⟨m, hm⟩ : ∃ m, j = m + k := ⟨j - k, by omega⟩
      have x2 : IntKind.i64.wrap ((j : Int) - (k : Int)) = (m : Int) := by rw [show (j : Int) - (k : Int) = (m : Int) by omega]; exact wrapI _ (by omega) (by omega)
      have HJ : Hid (L = j + 1) := hj
      have HM : Hid (j = m + k) := hm
      clear hj hm
      have ha1 : bits .and .i64 ((n : Int) / 2 ^ min m 64) 1 = ((eb n L (k + 1) % 2 : Nat) : Int) := by
        rw [← and_one _ (Nat.lt_of_le_of_lt (eb_le n L (k + 1)) hn)]
        unfold eb
        rw [show L - (k + 1) = m by have := HM.out; have := HJ.out; omega, Nat.min_eq_left (by have := HM.out; have := HJ.out; omega)]
        simp
      have z1 : ((A ^ eb n L k : Nat) : Int) < pw K := pow_bd hp hK0 (eb_le n L k)
      have z2 : ((A ^ (2 * eb n L k) : Nat) : Int) < pw K := pow_bd hp hK0 (by have := E1.out; have := eb_le n L (k + 1); omega)
      obtain ⟨e, he⟩ : ∃ e, eb n L (k + 1) = e := ⟨_, rfl⟩
      obtain ⟨e0, he0⟩ : ∃ e, eb n L k = e := ⟨_, rfl⟩
      have HE : Hid (eb n L (k + 1) = e) := he
      rw [he, he0] at E1
      rw [he] at ha1
      rw [he0] at nP z1 z2
      have M1 := Mul_n nP nP z1 z1 (by unfold MulOK; omega)
      rw [show ((A ^ e0 : Nat) : Int) * ((A ^ e0 : Nat) : Int) = ((A ^ (2 * e0) : Nat) : Int) by rw [Nat.two_mul, Nat.pow_add, Int.natCast_mul]] at M1
      have BL2 := fun x => BL x (by omega) (by omega)
      have zA : 1 ≤ n → ((A : Nat) : Int) < pw K := fun h => by have := pow_bd (e := 1) hp hK0 h; rwa [Nat.pow_one] at this
      have HS : Hid (w.heap.size + 2 ≤ g) := hs
      clear BL hp hA he he0 hs
      by_cases q : e % 2 = 1
      · have en : 1 ≤ n := by have := eb_le n L (k + 1); rw [HE.out] at this; omega
        have zB := zA en
        have EN : Hid (e = 2 * e0 + 1) := by have := E1.out; show _ = _; omega
        rw [q] at ha1
        have MA := fun (x : World) (a : Option Addr) (l' c' : Nat) (h : Nn x a l' c' ((A ^ (2 * e0) : Nat) : Int)) (h2 : Nn x p l c (A : Int)) => Mul_n h h2 z2 zB (by unfold MulOK; omega)
        rw [show ((A ^ (2 * e0) : Nat) : Int) * (A : Int) = ((A ^ e : Nat) : Int) by rw [EN.out, Nat.pow_succ, Int.natCast_mul]] at MA
        have d1 : w.heap.size ≠ g := by have := HS.out; omega
        have d2 : w.heap.size + 1 ≠ g := by have := HS.out; omega
        have l64 := l0.2
        clear hn l0 zA z1 z2 zB q en
        go_wp2_with (first
          | (go_at_call 64; (with_reducible refine M1.mono ?_); rintro _ w2 ⟨ma, ml, mc, rfl, nM, b4⟩; (have K3 := P3.below b4); (have m1 := K3.1); (have m2 := K3.2))
          | (go_at_call 124; (with_reducible refine (BL2 _).mono ?_); rintro _ w3 ⟨rfl, rfl⟩; (have J3 := K3.set (.slice ma ml mc)); (have J1 := bxskip (P1.below b4) d1 (.slice ma ml mc)); (have j1 := J3.1); (have j2 := J1.1))
          | fail)
        clear M1 BL2
        have J2 := bxskip (P2.below b4) d2 (.slice ma ml mc)
        have NM := nM.box (u := .slice ma ml mc) K3
        have NA := (nA.grow b4).box (u := .slice ma ml mc) K3
        have b5 := below_put (bel' b3 b4) (show w.heap.size ≤ g by have := HS.out; omega) (.slice ma ml mc)
        have f2 := J3.2
        generalize w2.setCell ⟨g, 0, none⟩ (.slice ma ml mc) = V at *
        refine (MA V ma ml mc NM NA).mono ?_
        rintro _ w3 ⟨pa, pl, pc, rfl, nQ, b6⟩
        have I3 := J3.below b6
        have i1 := I3.1
        have i2 := I3.2
        have I1 := bxskip (J1.below b6) d1 (.slice pa pl pc)
        have I2 := bxskip (J2.below b6) d2 (.slice pa pl pc)
        have NQ := nQ.box (u := .slice pa pl pc) I3
        have NB := (NA.grow b6).box (u := .slice pa pl pc) I3
        have b7 := below_put (bel' b5 b6) (show w.heap.size ≤ g by have := HS.out; omega) (.slice pa pl pc)
        have I4 := I3.set (.slice pa pl pc)
        clear MA ha1 x1 x2
        have lk : k < 64 := by have := HM.out; have := HJ.out; omega
        go_wp2_with fail
        go_roundw
        case rel => exact ⟨k + 1, pa, pl, pc, by go_num, by omega, by rw [HE.out]; exact NQ, NB, I4, I1, I2, b7⟩
        case measure => simp [RowKit.intOf]; omega
      · have EN : Hid (e = 2 * e0) := by have := E1.out; show _ = _; omega
        rw [show e % 2 = 0 by omega] at ha1
        have d1 : w.heap.size ≠ g := by have := HS.out; omega
        have d2 : w.heap.size + 1 ≠ g := by have := HS.out; omega
        have lk : k < 64 := by have := HM.out; have := HJ.out; omega
        clear hn l0 zA z1 z2 q
        go_wp2_with (first
          | (go_at_call 64; (with_reducible refine M1.mono ?_); rintro _ w2 ⟨ma, ml, mc, rfl, nM, b4⟩; (have K3 := P3.below b4); (have m1 := K3.1); (have m2 := K3.2))
          | (go_at_call 124; (with_reducible refine (BL2 _).mono ?_); rintro _ w3 ⟨rfl, rfl⟩)
          | fail)
        go_roundw
        case rel =>
          exact ⟨k + 1, ma, ml, mc, by go_num, by omega, by rw [HE.out, EN.out]; exact nM.box K3, (nA.grow b4).box K3, K3.set _, bxskip (P1.below b4) d1 _, bxskip (P2.below b4) d2 _, below_put (bel' b3 b4) (show w.heap.size ≤ g by have := HS.out; omega) _⟩
        case measure => simp [RowKit.intOf]; omega
    · obtain rfl : k = L := by omega
      rw [eb_full] at nP
      have nE := nP.box (u := .slice a l' c') P2
      have bE := below_put b3 (show w.heap.size ≤ w.heap.size + 1 by omega) (.slice a l' c')
      clear hp x0 BL
      have c1 := P2.1
      have c2 := P3.1
      have c3 := P2.2
      go_wp2
      have v1 := (P2.set (.slice a l' c')).1
      exact bodyPost_ret (v := .agg #[.slice a l' c']) (by simp [results, Tryz.results66, go_sem, v1]) rfl ⟨a, l', c', rfl, nE, bE⟩
end Go.Proofs.YtebilgnmnambnaaGreatDoor.Mo

namespace Go.Proofs.YtebilgnmnambnaaGreatDoor.L
open Go.RowKit Tl
structure Pk (N A O : Int) (m : Nat) : Prop where
  eq : O * A ^ m = N
  alt : (A = 0 ∧ 0 ≤ O ∧ O ≤ 1) ∨ (1 ≤ A ∧ 1 ≤ O)
theorem one_le_pow {A : Int} (h : 1 ≤ A) : ∀ m : Nat, 1 ≤ A ^ m
  | 0 => by simp
  | m + 1 => by
    rw [Int.pow_succ]
    have := one_le_pow h m
    have := Int.mul_le_mul this h (by decide) (by omega)
    omega
theorem le_pow {A : Int} (h : 1 ≤ A) {m : Nat} (hm : 1 ≤ m) : A ≤ A ^ m := by
  obtain ⟨k, rfl⟩ : ∃ k, m = k + 1 := ⟨m - 1, by omega⟩
  rw [Int.pow_succ]
  have := one_le_pow h k
  have := Int.mul_le_mul_of_nonneg_right this (show 0 ≤ A by omega)
  omega
theorem Pk.o {N A O : Int} {m : Nat} (h : Pk N A O m) {B : Int} (b : N < B) (b1 : 1 < B) : O < B := by
  rcases h.alt with ⟨_, _, a⟩ | ⟨a, o⟩
  · omega
  · have := one_le_pow a m
    have := Int.mul_le_mul_of_nonneg_left this (show 0 ≤ O by omega)
    have := h.eq
    omega
theorem Pk.a {N A O : Int} {m : Nat} (h : Pk N A O m) (hm : 1 ≤ m) {B : Int} (b : N < B) (b1 : 1 < B) : A < B := by
  rcases h.alt with ⟨a, _, _⟩ | ⟨a, o⟩
  · omega
  · have p1 := le_pow a hm
    have := Int.mul_le_mul_of_nonneg_right o (show 0 ≤ A ^ m by omega)
    have := h.eq
    omega
theorem Pk.odd {N A O : Int} {m : Nat} (h : Pk N A O (2 * m + 1)) : Pk N A (O * A) (2 * m) := by
  refine ⟨by rw [← h.eq, Int.pow_succ, Int.mul_assoc, Int.mul_comm A], ?_⟩
  rcases h.alt with ⟨a, _, _⟩ | ⟨a, o⟩
  · subst a; exact Or.inl ⟨rfl, by simp, by simp⟩
  · have := Int.mul_le_mul o a (by decide) (by omega)
    exact Or.inr ⟨a, by omega⟩
theorem Pk.sq {N A O : Int} {m : Nat} (h : Pk N A O (2 * m)) : Pk N (A * A) O m := by
  refine ⟨by rw [← h.eq, Int.pow_mul]; congr 2; rw [Int.pow_succ, Int.pow_succ, Int.pow_zero, Int.one_mul], ?_⟩
  rcases h.alt with ⟨a, b⟩ | ⟨a, o⟩
  · subst a; exact Or.inl ⟨rfl, b⟩
  · have := Int.mul_le_mul a a (by decide) (by omega)
    exact Or.inr ⟨by omega, o⟩
theorem len_of {xs : List Int} {n : Nat} (h : Wd xs) (k : Nm xs) (v : val xs < pw n) : xs.length ≤ n := by
  by_cases e : xs = []
  · subst e; simp
  · have := val_low h k e
    by_cases c : xs.length ≤ n
    · exact c
    · have := pw_mono (show n ≤ xs.length - 1 by omega)
      omega
set_option maxRecDepth 100000 in
set_option maxHeartbeats 1600000 in
theorem Pow_any (v : Value) (xs : List Int) (n K : Nat) (w : World) (h : Rd w v xs) (hx : Nm xs) (hn : n < 9223372036854775808) (hp : val xs ^ n < pw K) (hk : 1 < pw K) (hK : K ≤ 274877906944) :
    Calls Tryz.prog 114 #[v, .int .i64 n] w fun e w' => ∃ u zs, e = .returned u ∧ Rd w' u zs ∧ Nm zs ∧ val zs = val xs ^ n ∧ Below w.heap.size w w' := by
  have al := (Below.refl w.heap.size w).alloc (Nat.le_refl _) (.cells #[.int .i64 1] 3)
  have r1 : Rd (w.alloc (.cells #[.int .i64 1] 3)) (.slice (some ⟨w.heap.size, 0, none⟩) 1 1) [1] := rd_one (by simp) (by decide) (by decide)
  have r0 := h.grow al
  have k0 : Pk (val xs ^ n) (val xs) (val [1]) n := ⟨by simp [val], by
    have := val_nonneg h.1
    simp only [val]
    omega⟩
  obtain ⟨N, hN⟩ : ∃ N, val xs ^ n = N := ⟨_, rfl⟩
  rw [hN] at k0 hp
  rw [hN]
  go_enter Tryz.func114, Tryz.ntmps114
  go_wp2_with fail
  generalize w.alloc (.cells #[.int .i64 1] 3) = W at *
  go_loopw [0, 1, 5] (fun a i o wr => ∃ (m : Nat) (A O : List Int), i = .int .i64 m ∧ m ≤ n ∧ Rd wr a A ∧ Nm A ∧ Rd wr o O ∧ Nm O ∧ Pk N (val A) (val O) m ∧ Below w.heap.size w wr) (fun _ i _ _ => (RowKit.intOf i).toNat)
  case atStart => exact ⟨n, xs, [1], rfl, Nat.le_refl _, r0, hx, r1, nm_one, k0, al⟩
  case round =>
    clear r0 r1 k0 al h hx
    obtain ⟨m, A, O, rfl, hm, rA, nA, rO, nO, pk, b⟩ := hrel
    by_cases z : m = 0
    · subst z
      have e := pk.eq
      rw [Int.pow_zero, Int.mul_one] at e
      clear hp hk hn hN
      go_wp2
      go_ret
      exact ⟨_, O, rfl, rO, nO, e, b⟩
    · have z' : (m : Int) > 0 := by omega
      have lA := len_of rA.1 nA (pk.a (by omega) hp hk)
      have lO := len_of rO.1 nO (pk.o hp hk)
      obtain ⟨j, hj⟩ : ∃ j, m / 2 = j := ⟨_, rfl⟩
      have MA := fun (x : World) (b : Below wr.heap.size wr x) => Mul_any _ _ A A x (rA.grow b) (rA.grow b) (by omega) (by omega)
      have MO := Mul_any _ _ O A wr rO rA (by omega) (by omega)
      have q1 : (m : Int) / 2 = (j : Int) := by omega
      have q2 : Int.tdiv (m : Int) 2 = (j : Int) := by rw [Int.tdiv_eq_ediv_of_nonneg (by omega)]; exact q1
      have q3 : IntKind.i64.wrap (j : Int) = (j : Int) := Wt.wrapI _ (by omega) (by omega)
      have HB : Hid (j < m) := by show j < m; omega
      clear hp hk hK hN lA lO
      by_cases od : m % 2 = 1
      · have o1 : (m : Int) % 2 = 1 := by omega
        have o2 : Int.tmod (m : Int) 2 = 1 := by rw [Int.tmod_eq_emod_of_nonneg (by omega)]; exact o1
        have pk2 : Pk N (val A) (val O * val A) (2 * j) := Pk.odd (by rw [show 2 * j + 1 = m by omega]; exact pk)
        clear pk
        by_cases j0 : j = 0
        · subst j0
          clear MA hj od q1 o1
          go_wp2_with (first
            | (go_at_call 78; (with_reducible refine MO.mono ?_); rintro _ w2 ⟨o2, O2, rfl, rO2, nO2, vO2, b2⟩)
            | fail)
          exact ⟨⟨0, A, O2, rfl, Nat.zero_le _, rA.grow b2, nA, rO2, nO2, by rw [vO2]; exact pk2, bel b b2⟩, by simp [RowKit.intOf]; exact HB.out⟩
        · have j1 : (j : Int) > 0 := by omega
          have hjn : Hid (j ≤ n) := by show j ≤ n; omega
          clear hj od q1 o1 j0
          go_wp2_with (first
            | (go_at_call 78; (with_reducible refine MO.mono ?_); rintro _ w2 ⟨o2, O2, rfl, rO2, nO2, vO2, b2⟩; (have MA2 := MA _ b2))
            | (go_at_call 78; (with_reducible refine MA2.mono ?_); rintro _ w3 ⟨a2, A2, rfl, rA2, nA2, vA2, b3⟩)
            | fail)
          exact ⟨⟨j, A2, O2, rfl, hjn.out, rA2, nA2, rO2.grow b3, nO2, by rw [vO2, vA2]; exact pk2.sq, bel (bel b b2) b3⟩, by simp [RowKit.intOf]; exact HB.out⟩
      · have o1 : (m : Int) % 2 = 0 := by omega
        have o2 : Int.tmod (m : Int) 2 = 0 := by rw [Int.tmod_eq_emod_of_nonneg (by omega)]; exact o1
        have pk2 : Pk N (val A) (val O) (2 * j) := by rw [show 2 * j = m by omega]; exact pk
        have j1 : (j : Int) > 0 := by omega
        have hjn : Hid (j ≤ n) := by show j ≤ n; omega
        have MA2 := MA wr (Below.refl _ _)
        clear pk hj od q1 o1 MO MA
        go_wp2_with (first
          | (go_at_call 78; (with_reducible refine MA2.mono ?_); rintro _ w3 ⟨a2, A2, rfl, rA2, nA2, vA2, b3⟩)
          | fail)
        exact ⟨⟨j, A2, O, rfl, hjn.out, rA2, nA2, rO.grow b3, nO, by rw [vA2]; exact pk2.sq, bel b b3⟩, by simp [RowKit.intOf]; exact HB.out⟩
end Go.Proofs.YtebilgnmnambnaaGreatDoor.L

namespace Go.Proofs.YtebilgnmnambnaaGreatDoor.Mo
open Go.RowKit Fu Tn Go.Lib Dc
theorem bne_z {c : Int} (h : c ≠ 0) : (c != 0) = true := by simpa using h
end Go.Proofs.YtebilgnmnambnaaGreatDoor.Mo
