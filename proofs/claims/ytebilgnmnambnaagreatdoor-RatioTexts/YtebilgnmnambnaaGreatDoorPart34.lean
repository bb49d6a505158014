import Derived.Test.YtebilgnmnambnaaGreatDoorPart27
import Derived.Deep.DeepCutAuto
import Derived.Test.YtebilgnmnambnaaGreatDoorPart14
import Derived.Test.YtebilgnmnambnaaGreatDoorPart06

namespace Go.Proofs.YtebilgnmnambnaaGreatDoor.Mo
open Go.RowKit Fu Tn Go.Lib
theorem bput {w : World} {n : Nat} {c : Array Value} {t : TypeId} (h : Blk w n c t) (i : Nat) (v : Value) : Blk (w.setCell ⟨n, i, none⟩ v) n (c.setIfInBounds i v) t := by
  have h' : w.heap[n]? = some (.cells c t (0, 0)) := h
  show (w.setCell ⟨n, i, none⟩ v).heap[n]? = _
  simp [World.setCell, Array.getElem?_modify, h']
def Gw (w : World) : Prop := ∀ w', Below w.heap.size w w' → TabIs Tryz.prog w' "internal/strconv.uint64pow10" .u64 pow10Tab
theorem Gw.grow {w w' : World} (h : Gw w) (b : Below w.heap.size w w') : Gw w' := fun w2 b2 => h w2 (bel' b b2)
theorem Gw.here {w : World} (h : Gw w) : TabIs Tryz.prog w "internal/strconv.uint64pow10" .u64 pow10Tab := h w (Below.refl _ _)
set_option maxRecDepth 100000 in
theorem Text_one (a : Option Addr) (l c : Nat) (V : Nat) (w : World) (h : Nn w a l c V) (hV : V < 18446744073709551616) (G : Gw w) :
    Calls Tryz.prog 67 #[.agg #[.slice a l c]] w fun e w' => e = .returned (.string ⟨(decDigits V).toArray⟩) ∧ Below w.heap.size w w' := by
  obtain ⟨xs, r, n, hv⟩ := h
  have hl : xs.length ≤ 1 := len_of r.1 n (by
    rw [hv]; show (V : Int) < pw 1; have : pw 1 = 18446744073709551616 := by decide
    omega)
  have el : l = xs.length := by
    obtain ⟨_, a', c', e, _⟩ := r
    simp at e; exact e.2.1
  have l1 : (l : Int) ≤ 1 := by omega
  have pr : Below w.heap.size w (w.alloc (.cells #[.slice a l c] 65)) := (Below.refl _ _).alloc (Nat.le_refl _) _
  have Wo : ∀ x, Below w.heap.size w x → Calls Tryz.prog 126 #[.agg #[.slice a l c]] x fun e w' => e = .returned (.int .u64 V) ∧ Below x.heap.size x w' := fun x b => by
    have := lowest_any (.slice a l c) xs x (r.grow b) n
    rw [word_val r.1 (by rw [hv]; omega), hv] at this
    exact this
  have Fm := fun x (b : Below w.heap.size w x) => FormatUint_any V hV x (G.grow b).here
  have X0 := Bx.new w (.slice a l c) 65
  have x0 := X0.1
  clear r n hv hl el G
  go_enter Tryz.func67, Tryz.ntmps67
  go_wp2_with (first
    | (go_at_call 126; refine (Wo _ pr).mono ?_; rintro e w1 ⟨rfl, b1⟩; have p1 := bel' pr b1)
    | (go_at_call 125; refine (Fm _ p1).mono ?_; rintro e w2 ⟨rfl, b2⟩; have p2 := bel' p1 b2)
    | fail)
  go_ret
  exact ⟨rfl, p2⟩
structure WT3 (W x : World) (V0 : Value) (V1 : Value) (V2 : Value) (V3 : Value) (y0 y1 y2 y3 : Bool) (t19 t20 t21 t22 : Value) : Prop where
  bel : Below W.heap.size W x
  o0 : y0 = true → t19 = V0
  o1 : y1 = true → t20 = V1
  o2 : y2 = true → t21 = V2
  o3 : y3 = true → t22 = V3
  d3_2 : y3 = true → y2 = true
theorem WT3.grow {W x x' : World} {V0 : Value} {V1 : Value} {V2 : Value} {V3 : Value} {y0 y1 y2 y3 : Bool} {t19 t20 t21 t22 : Value} (h : WT3 W x V0 V1 V2 V3 y0 y1 y2 y3 t19 t20 t21 t22) (b : Below x.heap.size x x') : WT3 W x' V0 V1 V2 V3 y0 y1 y2 y3 t19 t20 t21 t22 where
  bel := bel' h.bel b
  o0 := h.o0
  o1 := h.o1
  o2 := h.o2
  o3 := h.o3
  d3_2 := h.d3_2
set_option maxHeartbeats 1600000 in
set_option maxRecDepth 100000 in
theorem Write_walk (g : Bool) (P1 P2 : Option Addr) (M1 C1 M2 C2 : Nat) (s t u : ByteArray) (L1 L2 : Int) (w : World) (l1 : L1 ≤ 13654) (l2 : L2 ≤ 13654) (s1 : s.size ≤ 4096) (s2 : t.size ≤ 4096)
    (T1 : ∀ x, Below w.heap.size w x → Calls Tryz.prog 67 #[.agg #[.slice P1 M1 C1]] x fun e w' => e = .returned (.string s) ∧ Below x.heap.size x w')
    (T2 : ∀ x, Below w.heap.size w x → Calls Tryz.prog 67 #[.agg #[.slice P2 M2 C2]] x fun e w' => e = .returned (.string t) ∧ Below x.heap.size x w')
    (B1 : ∀ x, Below w.heap.size w x → Calls Tryz.prog 111 #[.agg #[.slice P1 M1 C1]] x fun e w' => e = .returned (.int .i64 L1) ∧ Below x.heap.size x w')
    (B2 : ∀ x, Below w.heap.size w x → Calls Tryz.prog 111 #[.agg #[.slice P2 M2 C2]] x fun e w' => e = .returned (.int .i64 L2) ∧ Below x.heap.size x w')
    (WS : ∀ x, Calls Tryz.prog 69 #[.bool g, .string s] x fun e w' => e = .returned (.string u) ∧ w' = x) :
    Calls Tryz.prog 105 #[.bool g, .agg #[.slice P1 M1 C1], .agg #[.slice P2 M2 C2]] w fun e w' => e = .returned (.tuple #[.agg #[.string u, .string t], .int .i64 0]) ∧ Below w.heap.size w w' := by
  have KX := ((Bx.new w (.slice P1 M1 C1) 65).alloc (.cells #[.slice P2 M2 C2] 65)).alloc (.cells #[.string ⟨#[]⟩, .string ⟨#[]⟩] 23)
  have KY := (Bx.new (w.alloc (.cells #[.slice P1 M1 C1] 65)) (.slice P2 M2 C2) 65).alloc (.cells #[.string ⟨#[]⟩, .string ⟨#[]⟩] 23)
  have KR := Blk.new ((w.alloc (.cells #[.slice P1 M1 C1] 65)).alloc (.cells #[.slice P2 M2 C2] 65)) #[.string ⟨#[]⟩, .string ⟨#[]⟩] 23
  simp only [World.size_alloc] at KY KR
  have pr : Below w.heap.size w (((w.alloc (.cells #[.slice P1 M1 C1] 65)).alloc (.cells #[.slice P2 M2 C2] 65)).alloc (.cells #[.string ⟨#[]⟩, .string ⟨#[]⟩] 23)) := (((Below.refl _ _).alloc (Nat.le_refl _) _).alloc (by simp) _).alloc (by simp; omega) _
  have s1' : (s.size : Int) ≤ 4096 := by omega
  have s2' : (t.size : Int) ≤ 4096 := by omega
  go_enter Tryz.func105, Tryz.ntmps105
  go_wp2_with fail
  generalize ((w.alloc (.cells #[.slice P1 M1 C1] 65)).alloc (.cells #[.slice P2 M2 C2] 65)).alloc (.cells #[.string ⟨#[]⟩, .string ⟨#[]⟩] 23) = W0 at *
  have kx := KX.1
  have ky := KY.1
  go_wp2_with (first
    | (go_at_call 111; have q := b1; refine (B2 _ p1).mono ?_; rintro e w2 ⟨rfl, b2⟩; have p2 := bel' p1 b2; have KX2 := KX1.below b2; have KY2 := KY1.below b2; have KR2 := KR1.below b2 KR1.lt)
    | (go_at_call 111; refine (B1 _ pr).mono ?_; rintro e w1 ⟨rfl, b1⟩; have p1 := bel' pr b1; have KX1 := KX.below b1; have KY1 := KY.below b1; have ky1 := KY1.1; have KR1 := KR.below b1 KR.lt)
    | fail)
  clear KX KY KR KX1 KY1 KR1 kx ky ky1 B1 B2 b1 b2 p1 pr
  go_cut [8, 9] from 19 to 22 (fun x y wc => x = .string s ∧ y = .string t ∧ Below w2.heap.size w2 wc)
  case first =>
    rename_i hm hJ
    refine wp_region_held (S := fun _ => True) (by kernel_rfl) (any_inv (fun listed a x => ∃ (y0 y1 y2 y3 : Bool) (t19 t20 t21 t22 : Value) (z8 z9 : Value), a = ⟨#[.bool g, .agg #[.slice P1 M1 C1], .agg #[.slice P2 M2 C2], undef, .pointer (some ⟨w.heap.size, 0, none⟩), .pointer (some ⟨w.heap.size + 1, 0, none⟩), .pointer (some ⟨w.heap.size + 1 + 1, 0, none⟩), .int .i64 0, z8, z9, .agg #[.slice P1 M1 C1], .int .i64 L1, .bool (decide (13654 < L1)), .bool (decide (13654 < L1)), .agg #[.slice P2 M2 C2], .int .i64 L2, .bool (decide (13654 < L2)), .bool (decide (13654 < L1) || decide (13654 < L2)), undef, t19, t20, t21, t22, undef, undef, undef, undef, undef, undef, undef, undef, undef, undef, undef, undef, undef, undef], []⟩ ∧ ((listed = #[y0, y1, y2, y3, false, false] ∧ WT3 w2 x (.agg #[.slice P1 M1 C1]) (.string s) (.agg #[.slice P2 M2 C2]) (.string t) y0 y1 y2 y3 t19 t20 t21 t22 ∧ z8 = undef ∧ z9 = undef) ∨ (listed = #[true, true, true, true, true, false] ∧ t20 = .string s ∧ t22 = .string t ∧ z8 = .string s ∧ z9 = undef ∧ Below w2.heap.size w2 x) ∨ (listed = #[true, true, true, true, true, true] ∧ t20 = .string s ∧ t22 = .string t ∧ z8 = .string s ∧ z9 = .string t ∧ Below w2.heap.size w2 x))) ?_ ?_ _ _ _ _ (by decide) ?_)
    · rintro listed a x i ⟨y0, y1, y2, y3, t19, t20, t21, t22, z8, z9, rfl, h⟩ hi
      have hr : i < 6 := List.mem_range.1 (List.mem_filter.1 hi).1
      have hc := (List.mem_filter.1 hi).2
      rcases h with ⟨rfl, h⟩ | ⟨rfl, h⟩ | ⟨rfl, h⟩
      · rcases (show i = 0 ∨ i = 1 ∨ i = 2 ∨ i = 3 ∨ i = 4 ∨ i = 5 by omega) with rfl | rfl | rfl | rfl | rfl | rfl
        · obtain ⟨h, rfl, rfl⟩ := h
          clear hc hi
          have kd := (KX2.below h.bel).1
          refine wpOp_step rfl (fun K hK0 => ?_)
          have hK : Hid _ := hK0
          clear hK0
          rw [if_pos (by rfl)]
          go_wp2_with fail
          exact hK.out _ _ ⟨true,_,_,_,.agg #[.slice P1 M1 C1],_,_,_,undef,undef,rfl,Or.inl ⟨rfl, ⟨{ h with o0 := fun _ => rfl }, rfl, rfl⟩⟩⟩
        · obtain ⟨h, rfl, rfl⟩ := h
          have e0 : y0 = true := by
            revert hc
            cases y0 <;> simp [Region.binds]
          have r0 := h.o0 e0
          subst r0
          clear hc hi
          refine wpOp_step rfl (fun K hK0 => ?_)
          have hK : Hid _ := hK0
          clear hK0
          rw [if_pos (by rfl)]
          go_wp2_with (first | (go_at_call 67; go_must (refine (T1 x (bel' p2 h.bel)).mono ?_; rintro e x2 ⟨rfl, bb⟩)) | fail)
          exact hK.out _ _ ⟨_,true,_,_,_,_,_,_,undef,undef,rfl,Or.inl ⟨rfl, ⟨{ h.grow bb with o1 := fun _ => rfl }, rfl, rfl⟩⟩⟩
        · obtain ⟨h, rfl, rfl⟩ := h
          clear hc hi
          have kd := (KY2.below h.bel).1
          refine wpOp_step rfl (fun K hK0 => ?_)
          have hK : Hid _ := hK0
          clear hK0
          rw [if_pos (by rfl)]
          go_wp2_with fail
          exact hK.out _ _ ⟨_,_,true,_,_,_,.agg #[.slice P2 M2 C2],_,undef,undef,rfl,Or.inl ⟨rfl, ⟨{ h with o2 := fun _ => rfl, d3_2 := fun _ => rfl }, rfl, rfl⟩⟩⟩
        · obtain ⟨h, rfl, rfl⟩ := h
          have e2 : y2 = true := by
            revert hc
            cases y2 <;> simp [Region.binds]
          have r2 := h.o2 e2
          subst r2
          clear hc hi
          refine wpOp_step rfl (fun K hK0 => ?_)
          have hK : Hid _ := hK0
          clear hK0
          rw [if_pos (by rfl)]
          go_wp2_with (first | (go_at_call 67; go_must (refine (T2 x (bel' p2 h.bel)).mono ?_; rintro e x2 ⟨rfl, bb⟩)) | fail)
          exact hK.out _ _ ⟨_,_,_,true,_,_,_,_,undef,undef,rfl,Or.inl ⟨rfl, ⟨{ h.grow bb with o3 := fun _ => rfl, d3_2 := fun _ => e2 }, rfl, rfl⟩⟩⟩
        · obtain ⟨h, rfl, rfl⟩ := h
          have e0 : y0 = true := by
            revert hc
            cases y0 <;> simp [Region.binds]
          have e1 : y1 = true := by
            revert hc
            cases y1 <;> simp [Region.binds]
          have e3 : y3 = true := by
            revert hc
            cases y3 <;> simp [Region.binds]
          have e2 := h.d3_2 e3
          have r1 := h.o1 e1
          subst r1
          have r3 := h.o3 e3
          subst r3
          clear hc hi
          subst e0 e1 e2 e3
          have bl := h.bel
          clear h
          refine wpOp_step rfl (fun K hK0 => ?_)
          have hK : Hid _ := hK0
          clear hK0
          rw [if_pos (by rfl)]
          go_wp2_with fail
          exact hK.out _ _ ⟨true,true,true,true,_,_,_,_,_,_,rfl,Or.inr (Or.inl ⟨rfl, rfl, rfl, rfl, rfl, bl⟩)⟩
        · simp [Region.binds] at hc
      · rcases (show i = 0 ∨ i = 1 ∨ i = 2 ∨ i = 3 ∨ i = 4 ∨ i = 5 by omega) with rfl | rfl | rfl | rfl | rfl | rfl
        · simp at hc
        · simp at hc
        · simp at hc
        · simp at hc
        · simp at hc
        · clear hc hi
          obtain ⟨rfl, rfl, rfl, rfl, bl⟩ := h
          refine wpOp_step rfl (fun K hK0 => ?_)
          have hK : Hid _ := hK0
          clear hK0
          rw [if_pos (by rfl)]
          go_wp2_with fail
          exact hK.out _ _ ⟨true,true,true,true,_,_,_,_,_,_,rfl,Or.inr (Or.inr (⟨rfl, rfl, rfl, rfl, rfl, bl⟩))⟩
      · rcases (show i = 0 ∨ i = 1 ∨ i = 2 ∨ i = 3 ∨ i = 4 ∨ i = 5 by omega) with rfl | rfl | rfl | rfl | rfl | rfl <;> simp at hc
    · rintro listed a x ⟨y0, y1, y2, y3, t19, t20, t21, t22, z8, z9, rfl, h⟩ hn
      have al := all_listed (by decide +kernel) hn
      rcases h with ⟨rfl, h⟩ | ⟨rfl, h⟩ | ⟨rfl, h⟩
      · have z := al 4 (by decide)
        simp at z
      · have z := al 5 (by decide)
        simp at z
      · obtain ⟨rfl, rfl, rfl, rfl, bl⟩ := h
        refine hJ _ _ ?_
        go_meet
        case rel => exact ⟨rfl, rfl, bl⟩
    · exact ⟨false, false, false, false, undef, undef, undef, undef, undef, undef, rfl, Or.inl ⟨rfl, ⟨{ bel := (Below.refl _ _).drew, o0 := (by intro q; cases q), o1 := (by intro q; cases q), o2 := (by intro q; cases q), o3 := (by intro q; cases q), d3_2 := (by intro q; cases q) }, rfl, rfl⟩⟩⟩
  case rest =>
    obtain ⟨rfl, rfl, b3⟩ := hcut
    have p3 := bel' p2 b3
    have KR3 := KR2.below b3 KR2.lt
    have kr0 := KR3.at 0
    have kr1 := KR3.at 1
    have kf0 := KR3.free 0
    have kf1 := KR3.free 1
    simp at kr0 kr1
    clear T1 T2 KX2 KY2 KR2 p2 b3
    go_wp2_with (first
      | (go_at_call 69; refine (WS _).mono ?_; rintro e w4 ⟨rfl, hw⟩; subst w4)
      | fail)
    have KE := bput (bput KR3 0 (.string u)) 1 (.string t)
    have bE := (p3.setCell (p := ⟨w.heap.size + 1 + 1, 0, none⟩) (show w.heap.size ≤ w.heap.size + 1 + 1 by omega) (.string u)).setCell (p := ⟨w.heap.size + 1 + 1, 1, none⟩) (show w.heap.size ≤ w.heap.size + 1 + 1 by omega) (.string t)
    rename World => wc
    generalize (wc.setCell ⟨w.heap.size + 1 + 1, 0, none⟩ (.string u)).setCell ⟨w.heap.size + 1 + 1, 1, none⟩ (.string t) = WE at *
    have z0 := KE.at 0
    have z1 := KE.at 1
    simp at z0 z1
    exact bodyPost_ret (v := .tuple #[.agg #[.string u, .string t], .int .i64 0]) (by simp [results, Tryz.results105, go_sem, z0, z1]) rfl ⟨rfl, bE⟩
end Go.Proofs.YtebilgnmnambnaaGreatDoor.Mo

namespace Go.Proofs.YtebilgnmnambnaaGreatDoor.Mo
open Go.RowKit Fu Tn Go.Lib Dc
theorem Rb.ofB {x : World} {n : Nat} {a b c : Value} {t : TypeId} (K : Blk x n #[a, b, c] t) : Rb x n a b c := ⟨by have := K.at 0; simpa using this, by have := K.at 1; simpa using this, by have := K.at 2; simpa using this, K.free 0, K.free 1, K.free 2, t, K⟩
theorem Rb.sets {W : World} {n : Nat} {a b c : Value} (h : Rb W n a b c) (x y z : Value) : Rb (((W.setCell ⟨n, 0, none⟩ x).setCell ⟨n, 1, none⟩ y).setCell ⟨n, 2, none⟩ z) n x y z := by
  obtain ⟨t, K⟩ := h.bk
  have := bput (bput (bput K 0 x) 1 y) 2 z
  exact Rb.ofB (t := t) (by simpa using this)
end Go.Proofs.YtebilgnmnambnaaGreatDoor.Mo

namespace Go.Proofs.YtebilgnmnambnaaGreatDoor.Mo
open Go.RowKit Fu Tn Go.Lib
def nb (V : Nat) : Nat := if V = 0 then 0 else V.log2 + 1
theorem nb_eq {V L : Nat} (h1 : V < 2 ^ L) (h2 : L = 0 ∨ 2 ^ (L - 1) ≤ V) : L = nb V := by
  unfold nb
  by_cases c : V = 0
  · rw [if_pos c]
    rcases h2 with h | h
    · exact h
    · have := Nat.two_pow_pos (L - 1)
      omega
  · rw [if_neg c]
    rcases h2 with h | h
    · subst h; simp at h1; omega
    · have := (Nat.log2_eq_iff (k := L - 1) c).2 ⟨h, by
        by_cases e : L = 0
        · subst e; simp at h1; omega
        · rw [Nat.sub_add_cancel (by omega)]; exact h1⟩
      by_cases e : L = 0
      · subst e; simp at h1; omega
      · omega
theorem BitLen_n {a : Option Addr} {l c : Nat} {V : Nat} {x : World} (h : Nn x a l c V) {m : Nat} (hV : (V : Int) < pw m) (hm : m ≤ 1000000) :
    Calls Tryz.prog 111 #[.agg #[.slice a l c]] x fun e w' => e = .returned (.int .i64 (nb V)) ∧ Below x.heap.size x w' := by
  obtain ⟨xs, r, n, v⟩ := h
  have := len_of r.1 n (by rw [v]; exact hV)
  refine (BitLen_any _ xs x r n (by omega)).mono ?_
  rintro e w' ⟨L, rfl, h1, h2, _, b⟩
  rw [v] at h1 h2
  have e : L = nb V := nb_eq (by exact_mod_cast h1) (h2.imp id (fun h => by exact_mod_cast h))
  exact ⟨by rw [← e], b⟩
theorem nb_le {V k : Nat} (h : V < 2 ^ k) : nb V ≤ k := by
  unfold nb
  by_cases c : V = 0
  · rw [if_pos c]; omega
  · rw [if_neg c]
    have := (Nat.log2_lt (k := k) c).2 h
    omega
def wrt (r : Rat) : Value := .agg #[.string (sB (sg (decide (r.num < 0)) (decDigits r.num.natAbs))), .string (sB (decDigits r.den))]
end Go.Proofs.YtebilgnmnambnaaGreatDoor.Mo

namespace Go.Proofs.YtebilgnmnambnaaGreatDoor.Mo
open Go.RowKit Fu Tn Go.Lib Dc
theorem b48 {k : Nat} (h : k < 10) : (UInt8.ofNat (48 + k)).toNat = 48 + k := by
  rw [UInt8.toNat_ofNat']; omega
theorem dec_dg (u : Nat) : ∀ c ∈ decDigits u, Dc.Dg c := by
  induction u using Nat.strongRecOn with
  | ind u ih =>
    intro c hc
    rw [decDigits] at hc
    split at hc
    · rename_i h
      rw [List.mem_singleton] at hc
      rw [hc]; unfold Dc.Dg; rw [b48 h]; omega
    · rename_i h
      rcases List.mem_append.1 hc with hc | hc
      · exact ih _ (by omega) c hc
      · rw [List.mem_singleton] at hc
        rw [hc]; unfold Dc.Dg; rw [b48 (Nat.mod_lt _ (by decide))]; omega
theorem dec_num (u : Nat) : Dc.num (decDigits u) = u := by
  induction u using Nat.strongRecOn with
  | ind u ih =>
    rw [decDigits]
    split
    · rename_i h
      simp only [Dc.num, List.foldl_cons, List.foldl_nil]
      rw [b48 h]; omega
    · rename_i h
      rw [Dc.num_append, ih _ (by omega)]
      simp only [Dc.num, List.foldl_cons, List.foldl_nil, List.length_singleton]
      rw [b48 (Nat.mod_lt _ (by decide))]; omega
theorem dec_cons (u : Nat) : ∃ c t, decDigits u = c :: t ∧ (u < 10 → t = [] ∧ c.toNat = 48 + u) ∧ (0 < u → c.toNat ≠ 48) := by
  induction u using Nat.strongRecOn with
  | ind u ih =>
    rw [decDigits]
    split
    · rename_i h
      exact ⟨_, [], rfl, fun _ => ⟨rfl, b48 h⟩, fun h' => by rw [b48 h]; omega⟩
    · rename_i h
      obtain ⟨c, t, e, h1, h2⟩ := ih (u / 10) (by omega)
      exact ⟨c, t ++ [_], by rw [e]; rfl, fun h' => absurd h' h, fun _ => h2 (by omega)⟩
end Go.Proofs.YtebilgnmnambnaaGreatDoor.Mo
