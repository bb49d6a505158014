import Derived.Test.YtebilgnmnambnaaGreatDoorPart10
import Derived.Test.YtebilgnmnambnaaGreatDoorPart39
import Derived.Test.YtebilgnmnambnaaGreatDoorPart33
import Derived.Test.YtebilgnmnambnaaGreatDoorPart46
import Derived.Deep.RegionHeld3
import Derived.Test.YtebilgnmnambnaaGreatDoorPart11
import Derived.Test.YtebilgnmnambnaaGreatDoorPart38
import Derived.Test.YtebilgnmnambnaaGreatDoorPart45
import Derived.Test.YtebilgnmnambnaaGreatDoorPart31
import Derived.Test.YtebilgnmnambnaaGreatDoorPart32
import Derived.Test.YtebilgnmnambnaaGreatDoorPart43
import Derived.Test.YtebilgnmnambnaaGreatDoorPart40

namespace Go.Proofs.YtebilgnmnambnaaGreatDoor.Mo
open Go.RowKit

end Go.Proofs.YtebilgnmnambnaaGreatDoor.Mo

namespace Go.Proofs.YtebilgnmnambnaaGreatDoor.Mo
open Go.RowKit Fu Tn Go.Lib Dc

end Go.Proofs.YtebilgnmnambnaaGreatDoor.Mo

namespace Go.Proofs.YtebilgnmnambnaaGreatDoor.Mo
open Go.RowKit Fu Tn Go.Lib Dc

end Go.Proofs.YtebilgnmnambnaaGreatDoor.Mo

namespace Go.Proofs.YtebilgnmnambnaaGreatDoor.Mo
open Go.RowKit Fu Tn Go.Lib Dc

/-- What is written. -/
def wn (r : Rat) : ByteArray := (wA (decide (r.num < 0)) r.num.natAbs r.den).1.1
def wd (r : Rat) : ByteArray := (wA (decide (r.num < 0)) r.num.natAbs r.den).1.2
/-- A number that is read: neither part has more than 4096 digits. -/
def Rdy (r : Rat) : Prop := (decDigits r.num.natAbs).length ≤ 4096 ∧ (decDigits r.den).length ≤ 4096
end Go.Proofs.YtebilgnmnambnaaGreatDoor.Mo

namespace Go.Proofs.YtebilgnmnambnaaGreatDoor.L
open Go.RowKit Tl Go.Lib
set_option maxRecDepth 100000 in
set_option maxHeartbeats 3200000 in
theorem out_long (g : Bool) (a1 a2 : Option Addr) (m1 c1 m2 c2 : Nat) (s t : ByteArray) (w : World) (hl : (s.size : Int) > 4096 ∨ (¬ (s.size : Int) > 4096 ∧ (t.size : Int) > 4096))
    (T1 : ∀ x, Below w.heap.size w x → Calls Tryz.prog 55 #[.slice a1 m1 c1] x fun e w' => e = .returned (.string s) ∧ Below x.heap.size x w')
    (T2 : ∀ x, Below w.heap.size w x → Calls Tryz.prog 55 #[.slice a2 m2 c2] x fun e w' => e = .returned (.string t) ∧ Below x.heap.size x w') :
    Calls Tryz.prog 46 #[.agg #[.bool g, .slice a1 m1 c1, .slice a2 m2 c2]] w fun e w' => e = .returned (.tuple #[.agg #[.string ⟨#[]⟩, .string ⟨#[]⟩], .int .i64 3]) ∧ Below w.heap.size w w' := by
  have K0 := (Blk.new w #[.bool g, .slice a1 m1 c1, .slice a2 m2 c2] 56).alloc (.cells #[.string ⟨#[]⟩, .string ⟨#[]⟩] 23)
  have KR := Blk.new (w.alloc (.cells #[.bool g, .slice a1 m1 c1, .slice a2 m2 c2] 56)) #[.string ⟨#[]⟩, .string ⟨#[]⟩] 23
  simp only [World.size_alloc] at KR
  have pr : Below w.heap.size w ((w.alloc (.cells #[.bool g, .slice a1 m1 c1, .slice a2 m2 c2] 56)).alloc (.cells #[.string ⟨#[]⟩, .string ⟨#[]⟩] 23)) := ((Below.refl _ _).alloc (Nat.le_refl _) _).alloc (by simp) _
  go_enter Tryz.func46, Tryz.ntmps46
  go_wp2_with fail
  generalize (w.alloc (.cells #[.bool g, .slice a1 m1 c1, .slice a2 m2 c2] 56)).alloc (.cells #[.string ⟨#[]⟩, .string ⟨#[]⟩] 23) = W at *
  go_cut [4, 5] from 6 to 11 (fun x y wc => x = .string s ∧ y = .string t ∧ Below W.heap.size W wc)
  case first =>
    rename_i hm hJ
    refine wp_region_held (S := fun _ => True) (by kernel_rfl) (any_inv (fun listed a x => ∃ (y0 y1 y2 y3 y4 y5 : Bool) (t6 t7 t8 t9 t10 t11 : Value) (z4 z5 : Value), a = ⟨#[.agg #[.bool g, .slice a1 m1 c1, .slice a2 m2 c2], .pointer (some ⟨w.heap.size, 0, none⟩), .pointer (some ⟨w.heap.size + 1, 0, none⟩), .int .i64 0, z4, z5, t6, t7, t8, t9, t10, t11, undef, undef, undef, undef, undef, undef, undef, undef, undef, undef, undef, undef, undef, undef, undef, undef, undef], []⟩ ∧ ((listed = #[y0, y1, y2, y3, y4, y5, false, false] ∧ OQ1 W x (.pointer (some ⟨w.heap.size, 1, none⟩)) (.slice a1 m1 c1) (.string s) (.pointer (some ⟨w.heap.size, 2, none⟩)) (.slice a2 m2 c2) (.string t) y0 y1 y2 y3 y4 y5 t6 t7 t8 t9 t10 t11 ∧ z4 = undef ∧ z5 = undef) ∨ (listed = #[true, true, true, true, true, true, true, false] ∧ t8 = .string s ∧ t11 = .string t ∧ z4 = .string s ∧ z5 = undef ∧ Below W.heap.size W x) ∨ (listed = #[true, true, true, true, true, true, true, true] ∧ t8 = .string s ∧ t11 = .string t ∧ z4 = .string s ∧ z5 = .string t ∧ Below W.heap.size W x))) ?_ ?_ _ _ _ _ (by decide) ?_)
    · rintro listed a x i ⟨y0, y1, y2, y3, y4, y5, t6, t7, t8, t9, t10, t11, z4, z5, rfl, h⟩ hi
      have hr : i < 8 := List.mem_range.1 (List.mem_filter.1 hi).1
      have hc := (List.mem_filter.1 hi).2
      rcases h with ⟨rfl, h⟩ | ⟨rfl, h⟩ | ⟨rfl, h⟩
      · rcases (show i = 0 ∨ i = 1 ∨ i = 2 ∨ i = 3 ∨ i = 4 ∨ i = 5 ∨ i = 6 ∨ i = 7 by omega) with rfl | rfl | rfl | rfl | rfl | rfl | rfl | rfl
        · obtain ⟨h, rfl, rfl⟩ := h
          clear hc hi
          refine wpOp_step rfl (fun K hK0 => ?_)
          have hK : Hid _ := hK0
          clear hK0
          rw [if_pos (by rfl)]
          go_wp2_with fail
          exact hK.out _ _ ⟨true,_,_,_,_,_,.pointer (some ⟨w.heap.size, 1, none⟩),_,_,_,_,_,undef,undef,rfl,Or.inl ⟨rfl, ⟨{ h with o0 := fun _ => rfl }, rfl, rfl⟩⟩⟩
        · obtain ⟨h, rfl, rfl⟩ := h
          have e0 : y0 = true := by
            revert hc
            cases y0 <;> simp [Region.binds]
          have r0 := h.o0 e0
          subst r0
          clear hc hi
          have kd := ((K0.below h.bel K0.lt).at 1)
          simp at kd
          refine wpOp_step rfl (fun K hK0 => ?_)
          have hK : Hid _ := hK0
          clear hK0
          rw [if_pos (by rfl)]
          go_wp2_with fail
          exact hK.out _ _ ⟨_,true,_,_,_,_,_,.slice a1 m1 c1,_,_,_,_,undef,undef,rfl,Or.inl ⟨rfl, ⟨{ h with o1 := fun _ => rfl }, rfl, rfl⟩⟩⟩
        · obtain ⟨h, rfl, rfl⟩ := h
          have e1 : y1 = true := by
            revert hc
            cases y1 <;> simp [Region.binds]
          have r1 := h.o1 e1
          subst r1
          clear hc hi
          refine wpOp_step rfl (fun K hK0 => ?_)
          have hK : Hid _ := hK0
          clear hK0
          rw [if_pos (by rfl)]
          go_wp2_with (first | (go_at_call 55; go_must (refine (T1 x (bel' pr h.bel)).mono ?_; rintro e x2 ⟨rfl, bb⟩)) | fail)
          exact hK.out _ _ ⟨_,_,true,_,_,_,_,_,_,_,_,_,undef,undef,rfl,Or.inl ⟨rfl, ⟨{ h.grow bb with o2 := fun _ => rfl }, rfl, rfl⟩⟩⟩
        · obtain ⟨h, rfl, rfl⟩ := h
          clear hc hi
          refine wpOp_step rfl (fun K hK0 => ?_)
          have hK : Hid _ := hK0
          clear hK0
          rw [if_pos (by rfl)]
          go_wp2_with fail
          exact hK.out _ _ ⟨_,_,_,true,_,_,_,_,_,.pointer (some ⟨w.heap.size, 2, none⟩),_,_,undef,undef,rfl,Or.inl ⟨rfl, ⟨{ h with o3 := fun _ => rfl, d4_3 := fun _ => rfl }, rfl, rfl⟩⟩⟩
        · obtain ⟨h, rfl, rfl⟩ := h
          have e3 : y3 = true := by
            revert hc
            cases y3 <;> simp [Region.binds]
          have r3 := h.o3 e3
          subst r3
          clear hc hi
          have kd := ((K0.below h.bel K0.lt).at 2)
          simp at kd
          refine wpOp_step rfl (fun K hK0 => ?_)
          have hK : Hid _ := hK0
          clear hK0
          rw [if_pos (by rfl)]
          go_wp2_with fail
          exact hK.out _ _ ⟨_,_,_,_,true,_,_,_,_,_,.slice a2 m2 c2,_,undef,undef,rfl,Or.inl ⟨rfl, ⟨{ h with o4 := fun _ => rfl, d4_3 := fun _ => e3, d5_4 := fun _ => rfl }, rfl, rfl⟩⟩⟩
        · obtain ⟨h, rfl, rfl⟩ := h
          have e4 : y4 = true := by
            revert hc
            cases y4 <;> simp [Region.binds]
          have r4 := h.o4 e4
          subst r4
          clear hc hi
          refine wpOp_step rfl (fun K hK0 => ?_)
          have hK : Hid _ := hK0
          clear hK0
          rw [if_pos (by rfl)]
          go_wp2_with (first | (go_at_call 55; go_must (refine (T2 x (bel' pr h.bel)).mono ?_; rintro e x2 ⟨rfl, bb⟩)) | fail)
          exact hK.out _ _ ⟨_,_,_,_,_,true,_,_,_,_,_,_,undef,undef,rfl,Or.inl ⟨rfl, ⟨{ h.grow bb with o5 := fun _ => rfl, d5_4 := fun _ => e4 }, rfl, rfl⟩⟩⟩
        · obtain ⟨h, rfl, rfl⟩ := h
          have e0 : y0 = true := by
            revert hc
            cases y0 <;> simp [Region.binds]
          have e1 : y1 = true := by
            revert hc
            cases y1 <;> simp [Region.binds]
          have e2 : y2 = true := by
            revert hc
            cases y2 <;> simp [Region.binds]
          have e5 : y5 = true := by
            revert hc
            cases y5 <;> simp [Region.binds]
          have e4 := h.d5_4 e5
          have e3 := h.d4_3 e4
          have r2 := h.o2 e2
          subst r2
          have r5 := h.o5 e5
          subst r5
          clear hc hi
          subst e0 e1 e2 e3 e4 e5
          have bl := h.bel
          clear h
          refine wpOp_step rfl (fun K hK0 => ?_)
          have hK : Hid _ := hK0
          clear hK0
          rw [if_pos (by rfl)]
          go_wp2_with fail
          exact hK.out _ _ ⟨true,true,true,true,true,true,_,_,_,_,_,_,_,_,rfl,Or.inr (Or.inl ⟨rfl, rfl, rfl, rfl, rfl, bl⟩)⟩
        · simp [Region.binds] at hc
      · rcases (show i = 0 ∨ i = 1 ∨ i = 2 ∨ i = 3 ∨ i = 4 ∨ i = 5 ∨ i = 6 ∨ i = 7 by omega) with rfl | rfl | rfl | rfl | rfl | rfl | rfl | rfl
        · simp at hc
        · simp at hc
        · simp at hc
        · simp at hc
        · simp at hc
        · simp at hc
        · simp at hc
        · clear hc hi
          obtain ⟨rfl, rfl, rfl, rfl, bl⟩ := h
          refine wpOp_step rfl (fun K hK0 => ?_)
          have hK : Hid _ := hK0
          clear hK0
          rw [if_pos (by rfl)]
          go_wp2_with fail
          exact hK.out _ _ ⟨true,true,true,true,true,true,_,_,_,_,_,_,_,_,rfl,Or.inr (Or.inr (⟨rfl, rfl, rfl, rfl, rfl, bl⟩))⟩
      · rcases (show i = 0 ∨ i = 1 ∨ i = 2 ∨ i = 3 ∨ i = 4 ∨ i = 5 ∨ i = 6 ∨ i = 7 by omega) with rfl | rfl | rfl | rfl | rfl | rfl | rfl | rfl <;> simp at hc
    · rintro listed a x ⟨y0, y1, y2, y3, y4, y5, t6, t7, t8, t9, t10, t11, z4, z5, rfl, h⟩ hn
      have al := all_listed (by decide +kernel) hn
      rcases h with ⟨rfl, h⟩ | ⟨rfl, h⟩ | ⟨rfl, h⟩
      · have z := al 6 (by decide)
        simp at z
      · have z := al 7 (by decide)
        simp at z
      · obtain ⟨rfl, rfl, rfl, rfl, bl⟩ := h
        refine hJ _ _ ?_
        go_meet
        case rel => exact ⟨rfl, rfl, bl⟩
    · exact ⟨false, false, false, false, false, false, undef, undef, undef, undef, undef, undef, undef, undef, rfl, Or.inl ⟨rfl, ⟨{ bel := (Below.refl _ _).drew, o0 := (by intro q; cases q), o1 := (by intro q; cases q), o2 := (by intro q; cases q), o3 := (by intro q; cases q), o4 := (by intro q; cases q), o5 := (by intro q; cases q), d4_3 := (by intro q; cases q), d5_4 := (by intro q; cases q) }, rfl, rfl⟩⟩⟩
  case rest =>
    obtain ⟨rfl, rfl, b2⟩ := hcut
    have p2 := bel pr b2
    have KR2 := KR.below b2 KR.lt
    have z0 := KR2.at 0
    have z1 := KR2.at 1
    have y0 := KR2.free 0
    have y1 := KR2.free 1
    simp at z0 z1
    clear T1 T2 KR K0 pr b2
    rename World => w2
    rcases hl with s1 | ⟨s1, s2⟩
    all_goals
     go_wp2_with fail
     have KE := bput (bput KR2 0 (.string ⟨#[]⟩)) 1 (.string ⟨#[]⟩)
     have bE := (p2.setCell (p := ⟨w.heap.size + 1, 0, none⟩) (show w.heap.size ≤ w.heap.size + 1 by omega) (.string ⟨#[]⟩)).setCell (p := ⟨w.heap.size + 1, 1, none⟩) (show w.heap.size ≤ w.heap.size + 1 by omega) (.string ⟨#[]⟩)
     have q0 := KE.at 0
     have q1 := KE.at 1
     simp at q0 q1
     exact bodyPost_ret (v := .tuple #[.agg #[.string ⟨#[]⟩, .string ⟨#[]⟩], .int .i64 3]) (by simp [results, Tryz.results46, go_sem, q0, q1]) rfl ⟨rfl, bE⟩
/-- What Out tells, of whatever length. -/
theorem Out_any (v : Value) (r : Rat) (K : Nat) (w : World) (h : IsQ w v r) (hK : QS r K) (hK' : K ≤ 1000000000) :
    Calls Tryz.prog 46 #[v] w fun e w' => e = .returned (.tuple #[(Mo.wrA r).1, .int .i64 (Mo.wrA r).2]) ∧ Below w.heap.size w w' := by
  by_cases l : (decDigits r.num.natAbs).length ≤ 4096 ∧ (decDigits r.den).length ≤ 4096
  · rw [Mo.wrA_short l.1 l.2]
    exact Out_q v r K w h hK hK' l.1 l.2
  · rw [Mo.wrA_long l]
    obtain ⟨ns, ds, a1, a2, c1, c2, rfl, h1, n1, v1, h2, n2, v2⟩ := h
    have k1 : ns.length ≤ K := len_of_lt h1.1 n1 (by rw [v1]; exact hK.1)
    have k2 : ds.length ≤ K := len_of_lt h2.1 n2 (by rw [v2]; exact hK.2)
    have T1 := fun x (b : Below w.heap.size w x) => Text_any _ ns _ x (h1.grow b) n1 (by omega) v1
    have T2 := fun x (b : Below w.heap.size w x) => Text_any _ ds _ x (h2.grow b) n2 (by omega) v2
    by_cases l1 : (decDigits r.num.natAbs).length ≤ 4096
    · have l2 : ¬ (decDigits r.den).length ≤ 4096 := fun h => l ⟨l1, h⟩
      exact out_long _ a1 a2 _ c1 _ c2 (Mo.sB (decDigits r.num.natAbs)) (Mo.sB (decDigits r.den)) w (Or.inr ⟨by rw [Mo.sB_size]; omega, by rw [Mo.sB_size]; omega⟩) T1 T2
    · exact out_long _ a1 a2 _ c1 _ c2 (Mo.sB (decDigits r.num.natAbs)) (Mo.sB (decDigits r.den)) w (Or.inl (by rw [Mo.sB_size]; omega)) T1 T2
end Go.Proofs.YtebilgnmnambnaaGreatDoor.L

namespace Go.Proofs.YtebilgnmnambnaaGreatDoor.Mo
open Go.RowKit Fu Tn Go.Lib Dc

theorem tn_tl' : ∀ m : Nat, Tn.pw m ≤ Tl.pw (3 * m)
  | 0 => by decide
  | m + 1 => by
    have ih := tn_tl' m
    have p := Tn.pw_pos m
    rw [show 3 * (m + 1) = 3 * m + 1 + 1 + 1 by omega]
    simp only [Tn.pw, Tl.pw]
    omega
theorem qs_of {r : Rat} {m : Nat} (h : PS r m) : L.QS r (3 * m) := by
  have := tn_tl' m
  have h1 := h.1
  have h2 := h.2
  exact ⟨by omega, by omega⟩
theorem qs_k {r : Rat} {m K : Nat} (h : PS r m) (hK : 3 * m = K) : L.QS r K := hK ▸ qs_of h
theorem short_words' {N : Nat} (h : (decDigits N).length ≤ 4096) : (N : Int) < Tn.pw 256 := by
  have := num_pw (s := sB (decDigits N)) (dec_nat N) (by rw [sB_size]; exact h)
  rwa [sB_list, dec_num] at this
/-- What is right is a number as it is written. -/
theorem good_ok {n d : ByteArray} (h : goodE n d = 0) (hn : n.size ≤ 9223372036854775807) : ∃ r : Rat, (.agg #[.string n, .string d] : Value) = wrt r ∧ Rdy r ∧ PS r 256 ∧ ∀ x, Calls Tryz.prog 52 #[.agg #[.string n, .string d]] x (Qf r x) := by
  obtain ⟨r, e, _, _, l1, l2⟩ := good_wrt h
  refine ⟨r, e, ⟨l1, l2⟩, ⟨short_words' l1, short_words' l2⟩, fun x => ?_⟩
  unfold wrt at e
  simp only [Value.agg.injEq, Array.mk.injEq, List.cons.injEq, Value.string.injEq, and_true] at e
  obtain ⟨e1, e2⟩ := e
  refine qf_of ((In_q (r := r) x hn ?_ ?_ ?_ ?_ ?_ ?_ ?_).mono ?_)
  · rw [e1, sg_neg]
  · rw [e1, sg_rest, sB_list, dec_num]
  · rw [e2, sB_list, dec_num]
  · rw [e1, sg_rest, sB_size]; exact l1
  · rw [e2, sB_size]; exact l2
  · rw [e1, sg_rest]; exact dec_nat _
  · rw [e2]; exact dec_nat _
  · rintro e w' ⟨v, rfl, hq, _, b⟩
    exact ⟨v, rfl, hq, b⟩
theorem bne_z {c : Int} (h : c ≠ 0) : (c != 0) = true := by simpa using h
end Go.Proofs.YtebilgnmnambnaaGreatDoor.Mo
