import Derived.Test.YtfalncbcomlelaaGreatDoorPart33
import Derived.Test.YtfalncbcomlelaaGreatDoorPart20
import Derived.Test.YtfalncbcomlelaaGreatDoorPart08
import Derived.Test.YtfalncbcomlelaaGreatDoorPart35
import Derived.Test.YtfalncbcomlelaaGreatDoorPart02
import Derived.Laws.MakeOwn
import Derived.Deep.RegionHeld3

namespace Go.Proofs.YtfalncbcomlelaaGreatDoor.Mo
open Go.RowKit Fu Tn Go.Lib

theorem bput {w : World} {n : Nat} {c : Array Value} {t : TypeId} (h : Blk w n c t) (i : Nat) (v : Value) : Blk (w.setCell ⟨n, i, none⟩ v) n (c.setIfInBounds i v) t := by
  have h' : w.heap[n]? = some (.cells c t (0, 0)) := h
  show (w.setCell ⟨n, i, none⟩ v).heap[n]? = _
  simp [World.setCell, Array.getElem?_modify, h']
/-- The table that FormatUint reads, in a world and in all that grow out of it. -/
def Gw (w : World) : Prop := ∀ w', Below w.heap.size w w' → TabIs Tryz.prog w' "internal/strconv.uint64pow10" .u64 pow10Tab
theorem Gw.grow {w w' : World} (h : Gw w) (b : Below w.heap.size w w') : Gw w' := fun w2 b2 => h w2 (bel' b b2)
theorem Gw.here {w : World} (h : Gw w) : TabIs Tryz.prog w "internal/strconv.uint64pow10" .u64 pow10Tab := h w (Below.refl _ _)
theorem Gw.alloc {w : World} (h : Gw w) (o : Obj) : Gw (w.alloc o) := h.grow ((Below.refl _ _).alloc (Nat.le_refl _) o)
set_option maxRecDepth 100000 in
/-- Text of a number of one word. -/
theorem Text_one (a : Option Addr) (l c : Nat) (V : Nat) (w : World) (h : Nn w a l c V) (hV : V < 18446744073709551616) (G : Gw w) :
    Calls Tryz.prog 104 #[.agg #[.slice a l c]] w fun e w' => e = .returned (.string ⟨(decDigits V).toArray⟩) ∧ Below w.heap.size w w' := by
  obtain ⟨xs, r, n, hv⟩ := h
  have hl : xs.length ≤ 1 := len_of r.1 n (by
    rw [hv]; show (V : Int) < pw 1; have : pw 1 = 18446744073709551616 := by decide
    omega)
  have el : l = xs.length := by
    obtain ⟨_, a', c', e, _⟩ := r
    simp at e; exact e.2.1
  have l1 : (l : Int) ≤ 1 := by omega
  have pr : Below w.heap.size w (w.alloc (.cells #[.slice a l c] 56)) := (Below.refl _ _).alloc (Nat.le_refl _) _
  have Wo : ∀ x, Below w.heap.size w x → Calls Tryz.prog 102 #[.agg #[.slice a l c]] x fun e w' => e = .returned (.int .u64 V) ∧ Below x.heap.size x w' := fun x b => by
    have := lowest_any (.slice a l c) xs x (r.grow b) n
    rw [word_val r.1 (by rw [hv]; omega), hv] at this
    exact this
  have Fm := fun x (b : Below w.heap.size w x) => FormatUint_any V hV x (G.grow b).here
  have X0 := Bx.new w (.slice a l c) 56
  have x0 := X0.1
  clear r n hv hl el G
  go_enter Tryz.func104, Tryz.ntmps104
  go_wp2_with (first
    | (go_at_call 102; refine (Wo _ pr).mono ?_; rintro e w1 ⟨rfl, b1⟩; have p1 := bel' pr b1)
    | (go_at_call 129; refine (Fm _ p1).mono ?_; rintro e w2 ⟨rfl, b2⟩; have p2 := bel' p1 b2)
    | fail)
  go_ret
  exact ⟨rfl, p2⟩
structure WT3 (W x : World) (V0 : Value) (V1 : Value) (V2 : Value) (V3 : Value) (y0 y1 y2 y3 : Bool) (t19 t20 t21 t22 : Value) : Prop where
  bel : Below W.heap.size W x
  o0 : y0 = true → t19 = V0
  o1 : y1 = true → t20 = V1
  o2 : y2 = true → t21 = V2
  o3 : y3 = true → t22 = V3
  d3_2 : y3 = true → y2 = true
theorem WT3.grow {W x x' : World} {V0 : Value} {V1 : Value} {V2 : Value} {V3 : Value} {y0 y1 y2 y3 : Bool} {t19 t20 t21 t22 : Value} (h : WT3 W x V0 V1 V2 V3 y0 y1 y2 y3 t19 t20 t21 t22) (b : Below x.heap.size x x') : WT3 W x' V0 V1 V2 V3 y0 y1 y2 y3 t19 t20 t21 t22 where
  bel := bel' h.bel b
  o0 := h.o0
  o1 := h.o1
  o2 := h.o2
  o3 := h.o3
  d3_2 := h.d3_2

set_option maxHeartbeats 1600000 in
set_option maxRecDepth 100000 in
theorem Write_walk (g : Bool) (P1 P2 : Option Addr) (M1 C1 M2 C2 : Nat) (s t u : ByteArray) (L1 L2 : Int) (w : World) (l1 : L1 ≤ 13654) (l2 : L2 ≤ 13654) (s1 : s.size ≤ 4096) (s2 : t.size ≤ 4096)
    (T1 : ∀ x, Below w.heap.size w x → Calls Tryz.prog 104 #[.agg #[.slice P1 M1 C1]] x fun e w' => e = .returned (.string s) ∧ Below x.heap.size x w')
    (T2 : ∀ x, Below w.heap.size w x → Calls Tryz.prog 104 #[.agg #[.slice P2 M2 C2]] x fun e w' => e = .returned (.string t) ∧ Below x.heap.size x w')
    (B1 : ∀ x, Below w.heap.size w x → Calls Tryz.prog 103 #[.agg #[.slice P1 M1 C1]] x fun e w' => e = .returned (.int .i64 L1) ∧ Below x.heap.size x w')
    (B2 : ∀ x, Below w.heap.size w x → Calls Tryz.prog 103 #[.agg #[.slice P2 M2 C2]] x fun e w' => e = .returned (.int .i64 L2) ∧ Below x.heap.size x w')
    (WS : ∀ x, Calls Tryz.prog 105 #[.bool g, .string s] x fun e w' => e = .returned (.string u) ∧ w' = x) :
    Calls Tryz.prog 69 #[.bool g, .agg #[.slice P1 M1 C1], .agg #[.slice P2 M2 C2]] w fun e w' => e = .returned (.tuple #[.agg #[.string u, .string t], .int .i64 0]) ∧ Below w.heap.size w w' := by
  have KX := ((Bx.new w (.slice P1 M1 C1) 56).alloc (.cells #[.slice P2 M2 C2] 56)).alloc (.cells #[.string ⟨#[]⟩, .string ⟨#[]⟩] 23)
  have KY := (Bx.new (w.alloc (.cells #[.slice P1 M1 C1] 56)) (.slice P2 M2 C2) 56).alloc (.cells #[.string ⟨#[]⟩, .string ⟨#[]⟩] 23)
  have KR := Blk.new ((w.alloc (.cells #[.slice P1 M1 C1] 56)).alloc (.cells #[.slice P2 M2 C2] 56)) #[.string ⟨#[]⟩, .string ⟨#[]⟩] 23
  simp only [World.size_alloc] at KY KR
  have pr : Below w.heap.size w (((w.alloc (.cells #[.slice P1 M1 C1] 56)).alloc (.cells #[.slice P2 M2 C2] 56)).alloc (.cells #[.string ⟨#[]⟩, .string ⟨#[]⟩] 23)) := (((Below.refl _ _).alloc (Nat.le_refl _) _).alloc (by simp) _).alloc (by simp; omega) _
  have s1' : (s.size : Int) ≤ 4096 := by omega
  have s2' : (t.size : Int) ≤ 4096 := by omega
  go_enter Tryz.func69, Tryz.ntmps69
  go_wp2_with fail
  generalize ((w.alloc (.cells #[.slice P1 M1 C1] 56)).alloc (.cells #[.slice P2 M2 C2] 56)).alloc (.cells #[.string ⟨#[]⟩, .string ⟨#[]⟩] 23) = W0 at *
  have kx := KX.1
  have ky := KY.1
  go_wp2_with (first
    | (go_at_call 103; have q := b1; refine (B2 _ p1).mono ?_; rintro e w2 ⟨rfl, b2⟩; have p2 := bel' p1 b2; have KX2 := KX1.below b2; have KY2 := KY1.below b2; have KR2 := KR1.below b2 KR1.lt)
    | (go_at_call 103; refine (B1 _ pr).mono ?_; rintro e w1 ⟨rfl, b1⟩; have p1 := bel' pr b1; have KX1 := KX.below b1; have KY1 := KY.below b1; have ky1 := KY1.1; have KR1 := KR.below b1 KR.lt)
    | fail)
  clear KX KY KR KX1 KY1 KR1 kx ky ky1 B1 B2 b1 b2 p1 pr
  go_cut [8, 9] from 19 to 22 (fun x y wc => x = .string s ∧ y = .string t ∧ Below w2.heap.size w2 wc)
  case first =>
    rename_i hm hJ
    refine wp_region_held (S := fun _ => True) (by kernel_rfl) (any_inv (fun listed a x => ∃ (y0 y1 y2 y3 : Bool) (t19 t20 t21 t22 : Value) (z8 z9 : Value), a = ⟨#[.bool g, .agg #[.slice P1 M1 C1], .agg #[.slice P2 M2 C2], undef, .pointer (some ⟨w.heap.size, 0, none⟩), .pointer (some ⟨w.heap.size + 1, 0, none⟩), .pointer (some ⟨w.heap.size + 1 + 1, 0, none⟩), .int .i64 0, z8, z9, .agg #[.slice P1 M1 C1], .int .i64 L1, .bool (decide (13654 < L1)), .bool (decide (13654 < L1)), .agg #[.slice P2 M2 C2], .int .i64 L2, .bool (decide (13654 < L2)), .bool (decide (13654 < L1) || decide (13654 < L2)), undef, t19, t20, t21, t22, undef, undef, undef, undef, undef, undef, undef, undef, undef, undef, undef, undef, undef, undef], []⟩ ∧ ((listed = #[y0, y1, y2, y3, false, false] ∧ WT3 w2 x (.agg #[.slice P1 M1 C1]) (.string s) (.agg #[.slice P2 M2 C2]) (.string t) y0 y1 y2 y3 t19 t20 t21 t22 ∧ z8 = undef ∧ z9 = undef) ∨ (listed = #[true, true, true, true, true, false] ∧ t20 = .string s ∧ t22 = .string t ∧ z8 = .string s ∧ z9 = undef ∧ Below w2.heap.size w2 x) ∨ (listed = #[true, true, true, true, true, true] ∧ t20 = .string s ∧ t22 = .string t ∧ z8 = .string s ∧ z9 = .string t ∧ Below w2.heap.size w2 x))) ?_ ?_ _ _ _ _ (by decide) ?_)
    · rintro listed a x i ⟨y0, y1, y2, y3, t19, t20, t21, t22, z8, z9, rfl, h⟩ hi
      have hr : i < 6 := List.mem_range.1 (List.mem_filter.1 hi).1
      have hc := (List.mem_filter.1 hi).2
      rcases h with ⟨rfl, h⟩ | ⟨rfl, h⟩ | ⟨rfl, h⟩
      · rcases (show i = 0 ∨ i = 1 ∨ i = 2 ∨ i = 3 ∨ i = 4 ∨ i = 5 by omega) with rfl | rfl | rfl | rfl | rfl | rfl
        · obtain ⟨h, rfl, rfl⟩ := h
          clear hc hi
          have kd := (KX2.below h.bel).1
          refine wpOp_step rfl (fun K hK0 => ?_)
          have hK : Hid _ := hK0
          clear hK0
          rw [if_pos (by rfl)]
          go_wp2_with fail
          exact hK.out _ _ ⟨true, y1, y2, y3, .agg #[.slice P1 M1 C1], t20, t21, t22, undef, undef, rfl, Or.inl ⟨rfl, ⟨{ h with o0 := fun _ => rfl }, rfl, rfl⟩⟩⟩
        · obtain ⟨h, rfl, rfl⟩ := h
          have e0 : y0 = true := by
            revert hc
            cases y0 <;> simp [Region.binds]
          have r0 := h.o0 e0
          subst r0
          clear hc hi
          refine wpOp_step rfl (fun K hK0 => ?_)
          have hK : Hid _ := hK0
          clear hK0
          rw [if_pos (by rfl)]
          go_wp2_with (first | (go_at_call 104; go_must (refine (T1 x (bel' p2 h.bel)).mono ?_; rintro e x2 ⟨rfl, bb⟩)) | fail)
          exact hK.out _ _ ⟨y0, true, y2, y3, _, _, t21, t22, undef, undef, rfl, Or.inl ⟨rfl, ⟨{ h.grow bb with o1 := fun _ => rfl }, rfl, rfl⟩⟩⟩
        · obtain ⟨h, rfl, rfl⟩ := h
          clear hc hi
          have kd := (KY2.below h.bel).1
          refine wpOp_step rfl (fun K hK0 => ?_)
          have hK : Hid _ := hK0
          clear hK0
          rw [if_pos (by rfl)]
          go_wp2_with fail
          exact hK.out _ _ ⟨y0, y1, true, y3, t19, t20, .agg #[.slice P2 M2 C2], t22, undef, undef, rfl, Or.inl ⟨rfl, ⟨{ h with o2 := fun _ => rfl, d3_2 := fun _ => rfl }, rfl, rfl⟩⟩⟩
        · obtain ⟨h, rfl, rfl⟩ := h
          have e2 : y2 = true := by
            revert hc
            cases y2 <;> simp [Region.binds]
          have r2 := h.o2 e2
          subst r2
          clear hc hi
          refine wpOp_step rfl (fun K hK0 => ?_)
          have hK : Hid _ := hK0
          clear hK0
          rw [if_pos (by rfl)]
          go_wp2_with (first | (go_at_call 104; go_must (refine (T2 x (bel' p2 h.bel)).mono ?_; rintro e x2 ⟨rfl, bb⟩)) | fail)
          exact hK.out _ _ ⟨y0, y1, y2, true, t19, t20, _, _, undef, undef, rfl, Or.inl ⟨rfl, ⟨{ h.grow bb with o3 := fun _ => rfl, d3_2 := fun _ => e2 }, rfl, rfl⟩⟩⟩
        · obtain ⟨h, rfl, rfl⟩ := h
          have e0 : y0 = true := by
            revert hc
            cases y0 <;> simp [Region.binds]
          have e1 : y1 = true := by
            revert hc
            cases y1 <;> simp [Region.binds]
          have e3 : y3 = true := by
            revert hc
            cases y3 <;> simp [Region.binds]
          have e2 := h.d3_2 e3
          have r1 := h.o1 e1
          subst r1
          have r3 := h.o3 e3
          subst r3
          clear hc hi
          subst e0 e1 e2 e3
          have bl := h.bel
          clear h
          refine wpOp_step rfl (fun K hK0 => ?_)
          have hK : Hid _ := hK0
          clear hK0
          rw [if_pos (by rfl)]
          go_wp2_with fail
          exact hK.out _ _ ⟨true, true, true, true, t19, _, t21, _, _, _, rfl, Or.inr (Or.inl ⟨rfl, rfl, rfl, rfl, rfl, bl⟩)⟩
        · simp [Region.binds] at hc
      · rcases (show i = 0 ∨ i = 1 ∨ i = 2 ∨ i = 3 ∨ i = 4 ∨ i = 5 by omega) with rfl | rfl | rfl | rfl | rfl | rfl
        · simp at hc
        · simp at hc
        · simp at hc
        · simp at hc
        · simp at hc
        · clear hc hi
          obtain ⟨rfl, rfl, rfl, rfl, bl⟩ := h
          refine wpOp_step rfl (fun K hK0 => ?_)
          have hK : Hid _ := hK0
          clear hK0
          rw [if_pos (by rfl)]
          go_wp2_with fail
          exact hK.out _ _ ⟨true, true, true, true, _, _, _, _, _, _, rfl, Or.inr (Or.inr (⟨rfl, rfl, rfl, rfl, rfl, bl⟩))⟩
      · rcases (show i = 0 ∨ i = 1 ∨ i = 2 ∨ i = 3 ∨ i = 4 ∨ i = 5 by omega) with rfl | rfl | rfl | rfl | rfl | rfl <;> simp at hc
    · rintro listed a x ⟨y0, y1, y2, y3, t19, t20, t21, t22, z8, z9, rfl, h⟩ hn
      have al := all_listed (by decide +kernel) hn
      rcases h with ⟨rfl, h⟩ | ⟨rfl, h⟩ | ⟨rfl, h⟩
      · have z := al 4 (by decide)
        simp at z
      · have z := al 5 (by decide)
        simp at z
      · obtain ⟨rfl, rfl, rfl, rfl, bl⟩ := h
        refine hJ _ _ ?_
        go_meet
        case rel => exact ⟨rfl, rfl, bl⟩
    · exact ⟨false, false, false, false, undef, undef, undef, undef, undef, undef, rfl, Or.inl ⟨rfl, ⟨{ bel := (Below.refl _ _).drew, o0 := (by intro q; cases q), o1 := (by intro q; cases q), o2 := (by intro q; cases q), o3 := (by intro q; cases q), d3_2 := (by intro q; cases q) }, rfl, rfl⟩⟩⟩
  case rest =>
    obtain ⟨rfl, rfl, b3⟩ := hcut
    have p3 := bel' p2 b3
    have KR3 := KR2.below b3 KR2.lt
    have kr0 := KR3.at 0
    have kr1 := KR3.at 1
    have kf0 := KR3.free 0
    have kf1 := KR3.free 1
    simp at kr0 kr1
    clear T1 T2 KX2 KY2 KR2 p2 b3
    go_wp2_with (first
      | (go_at_call 105; refine (WS _).mono ?_; rintro e w4 ⟨rfl, hw⟩; subst w4)
      | fail)
    have KE := bput (bput KR3 0 (.string u)) 1 (.string t)
    have bE := (p3.setCell (p := ⟨w.heap.size + 1 + 1, 0, none⟩) (show w.heap.size ≤ w.heap.size + 1 + 1 by omega) (.string u)).setCell (p := ⟨w.heap.size + 1 + 1, 1, none⟩) (show w.heap.size ≤ w.heap.size + 1 + 1 by omega) (.string t)
    rename World => wc
    generalize (wc.setCell ⟨w.heap.size + 1 + 1, 0, none⟩ (.string u)).setCell ⟨w.heap.size + 1 + 1, 1, none⟩ (.string t) = WE at *
    have z0 := KE.at 0
    have z1 := KE.at 1
    simp at z0 z1
    exact bodyPost_ret (v := .tuple #[.agg #[.string u, .string t], .int .i64 0]) (by simp [results, Tryz.results69, go_sem, z0, z1]) rfl ⟨rfl, bE⟩
end Go.Proofs.YtfalncbcomlelaaGreatDoor.Mo

namespace Go.Proofs.YtfalncbcomlelaaGreatDoor.Mo
open Go.RowKit Fu Tn Go.Lib

/-- How many binary digits. -/
def nb (V : Nat) : Nat := if V = 0 then 0 else V.log2 + 1
theorem nb_eq {V L : Nat} (h1 : V < 2 ^ L) (h2 : L = 0 ∨ 2 ^ (L - 1) ≤ V) : L = nb V := by
  unfold nb
  by_cases c : V = 0
  · rw [if_pos c]
    rcases h2 with h | h
    · exact h
    · have := Nat.two_pow_pos (L - 1)
      omega
  · rw [if_neg c]
    rcases h2 with h | h
    · subst h; simp at h1; omega
    · have := (Nat.log2_eq_iff (k := L - 1) c).2 ⟨h, by
        by_cases e : L = 0
        · subst e; simp at h1; omega
        · rw [Nat.sub_add_cancel (by omega)]; exact h1⟩
      by_cases e : L = 0
      · subst e; simp at h1; omega
      · omega
theorem BitLen_n {a : Option Addr} {l c : Nat} {V : Nat} {x : World} (h : Nn x a l c V) {m : Nat} (hV : (V : Int) < pw m) (hm : m ≤ 1000000) :
    Calls Tryz.prog 103 #[.agg #[.slice a l c]] x fun e w' => e = .returned (.int .i64 (nb V)) ∧ Below x.heap.size x w' := by
  obtain ⟨xs, r, n, v⟩ := h
  have := len_of r.1 n (by rw [v]; exact hV)
  refine (BitLen_any _ xs x r n (by omega)).mono ?_
  rintro e w' ⟨L, rfl, h1, h2, _, b⟩
  rw [v] at h1 h2
  have e : L = nb V := nb_eq (by exact_mod_cast h1) (h2.imp id (fun h => by exact_mod_cast h))
  exact ⟨by rw [← e], b⟩
theorem nb_le {V k : Nat} (h : V < 2 ^ k) : nb V ≤ k := by
  unfold nb
  by_cases c : V = 0
  · rw [if_pos c]; omega
  · rw [if_neg c]
    have := (Nat.log2_lt (k := k) c).2 h
    omega
/-- An exact number as it is written. -/
def wrt (r : Rat) : Value := .agg #[.string (sB (sg (decide (r.num < 0)) (decDigits r.num.natAbs))), .string (sB (decDigits r.den))]
end Go.Proofs.YtfalncbcomlelaaGreatDoor.Mo

namespace Go.Proofs.YtfalncbcomlelaaGreatDoor.Wt
open Go.RowKit Tn Mo

theorem info_parts {P : Program} {t : TypeId} {z : Value} {s b : Nat} (h : (P.info? t).map (fun i => (i.zero, i.size, i.bytes)) = some (some z, s, b)) : ∃ i, P.info? t = some i ∧ i.zero = some z ∧ i.size = s ∧ i.bytes = b := by
  obtain ⟨i, h1, h2⟩ := Option.map_eq_some_iff.1 h
  simp only [Prod.mk.injEq] at h2
  exact ⟨i, h1, h2.1, h2.2.1, h2.2.2⟩
/-- A row of numbers of one's own: nothing else lies in its block. -/
structure Rg (w : World) (g cap : Nat) (vals : List Value) : Prop where
  blk : ∃ cur : Array Value, w.heap[g]? = some (.cells cur 56 (0, 0)) ∧ cur.size = cap ∧ cur.toList.take vals.length = vals ∧ ∀ u ∈ cur.toList, ∃ a l c, u = Value.slice a l c
  le : vals.length ≤ cap
theorem Rg.lt {w : World} {g cap : Nat} {vals : List Value} (h : Rg w g cap vals) : g < w.heap.size := by
  obtain ⟨cur, e, _⟩ := h.blk
  exact Own.lt ⟨cur, _, e⟩
theorem Rg.grow {w w' : World} {g cap : Nat} {vals : List Value} (h : Rg w g cap vals) (b : Below w.heap.size w w') : Rg w' g cap vals := by
  obtain ⟨⟨cur, e, r⟩, l⟩ := h
  exact ⟨⟨cur, (b.block g (Own.lt ⟨cur, _, e⟩)).trans e, r⟩, l⟩
theorem Rg.at {w : World} {g cap : Nat} {vals : List Value} (h : Rg w g cap vals) {i : Nat} {u : Value} (hi : vals[i]? = some u) : w.cell? ⟨g, i, none⟩ = some u := by
  obtain ⟨⟨cur, e, h1, h2, _⟩, _⟩ := h
  have c := congrArg (fun l : List Value => l[i]?) h2
  have hl : i < vals.length := by
    by_cases c : i < vals.length
    · exact c
    · rw [List.getElem?_eq_none (by omega)] at hi; cases hi
  simp only [List.getElem?_take, hl, if_true, hi, Array.getElem?_toList] at c
  simp only [World.cell?, e, Option.isSome_none, Bool.false_eq_true, if_false]
  exact c
theorem Rg.off {w : World} {g cap : Nat} {vals : List Value} (h : Rg w g cap vals) {b o : Nat} {k : IntKind} {x : Int} (hc : w.cell? ⟨b, o, none⟩ = some (.int k x)) : b ≠ g := by
  rintro rfl
  obtain ⟨⟨cur, e, _, _, h3⟩, _⟩ := h
  simp only [World.cell?, e, Option.isSome_none, Bool.false_eq_true, if_false] at hc
  rw [← Array.getElem?_toList] at hc
  obtain ⟨a, l, c, q⟩ := h3 _ (List.mem_of_getElem? hc)
  cases q
theorem Nn.row {w w' : World} {g cap : Nat} {vals : List Value} {a : Option Addr} {l c : Nat} {N : Int} (h : Nn w a l c N) (R : Rg w g cap vals) (gr : w.grownBy w' (some g)) : Nn w' a l c N := by
  obtain ⟨xs, ⟨hW, a1, c1, e, h1, h2, h3⟩, n, rfl⟩ := h
  refine ⟨xs, ⟨hW, a1, c1, e, h1, h2, fun lt => ?_⟩, n, rfl⟩
  obtain ⟨b, o, e2, q⟩ := h3 lt
  refine ⟨b, o, e2, fun i hi => gr.cell (q i hi) fun e => ?_⟩
  simp only [Option.some.injEq] at e
  exact R.off (q i hi) e
/-- append(rungs, r). -/
theorem run_rung {w : World} (ty : Nat) (g cap : Nat) (vals : List Value) (R : Rg w g cap vals) (ad c : Nat) (u1 : Option Addr) (u2 u3 : Nat) (hc : w.cell? ⟨ad, 0, none⟩ = some (.slice u1 u2 u3)) (hn : vals.length ≤ 1000) (hcm : cap ≤ maxLen) :
    ∃ g' cap' w', (Builtin.append_ #[84, 84] ty #[.slice (some ⟨g, 0, none⟩) vals.length cap, .slice (some ⟨ad, 0, none⟩) 1 c]).run Tryz.prog w = .ok (.slice (some ⟨g', 0, none⟩) (vals.length + 1) cap') w' ∧ Rg w' g' cap' (vals ++ [.slice u1 u2 u3]) ∧ w.grownBy w' (some g) ∧ cap' ≤ maxLen ∧ (g' = g ∨ w.heap.size ≤ g') := by
  obtain ⟨i, hi, hz0, hz1, hz2⟩ := info_parts (show (Tryz.prog.info? 56).map (fun i => (i.zero, i.size, i.bytes)) = some (some (.agg #[.slice none 0 0]), 1, 24) by kernel_rfl)
  have ht : Tryz.prog.underlying 84 = some (.slice 56) := by kernel_rfl
  have R' := R
  obtain ⟨⟨cur, e, h1, h2, h3⟩, hl⟩ := R
  have hnews : ∀ (j : Nat) (u : Value), [Value.slice u1 u2 u3][j]? = some u → w.cell? ((⟨ad, 0, none⟩ : Addr).add j) = some u := by
    intro j u hj
    match j, hj with
    | 0, hj => simp at hj; subst hj; simpa [Addr.add] using hc
    | j + 1, hj => simp at hj
  by_cases hroom : vals.length + 1 ≤ cap
  · have hr := run_append_room (P := Tryz.prog) w 84 ty 56 i ht hi g vals.length cap cur e ⟨ad, 0, none⟩ 1 c [.slice u1 u2 u3] (by simp [hz1]) hnews (by intro u hu; simp at hu; subst hu; rfl) hroom (by simp [hz1]; omega)
    rw [hz1, Nat.mul_one] at hr
    refine ⟨g, cap, _, hr, ⟨⟨_, setRow_heap w g cur _ 56 _ e, ?_, ?_, ?_⟩, by simp; omega⟩, ⟨rfl, rfl, rfl, by simp, fun k _ hk => setRow_other w g k _ (fun e => hk (by rw [e]))⟩, hcm, Or.inl rfl⟩
    · simp only [List.size_toArray, List.length_append, List.length_take, List.length_drop, Array.length_toList, List.length_cons, List.length_nil]
      omega
    · rw [h2]
      exact List.take_left
    · intro u hu
      simp only [List.mem_append, List.mem_singleton] at hu
      rcases hu with (hu | rfl) | hu
      · exact h3 u (List.mem_of_mem_take hu)
      · exact ⟨_, _, _, rfl⟩
      · exact h3 u (List.mem_of_mem_drop hu)
  · have holds : ∀ (j : Nat) (u : Value), vals[j]? = some u → w.cell? ((⟨g, 0, none⟩ : Addr).add j) = some u := fun j u hj => by
      rw [Addr.add_lit, Nat.zero_add]
      exact R'.at hj
    have hr := run_append_grow (P := Tryz.prog) w 84 ty 56 i (.agg #[.slice none 0 0]) ht hi hz0 ⟨g, 0, none⟩ vals.length cap vals (by rw [hz1, Nat.mul_one]) holds ⟨ad, 0, none⟩ 1 c [.slice u1 u2 u3] (by simp [hz1]) hnews (by omega) (by omega) (by rw [hz2]; exact growslice_fits (by omega) (by omega))
    have gc := grownCap_ge w (vals.length + 1) cap 56
    have gm := grownCap_le_maxLen w (vals.length + 1) cap 56 (by unfold maxLen; omega)
    refine ⟨_, _, _, hr, ⟨⟨_, heap_alloc_new _ _, ?_, ?_, ?_⟩, by simp; exact gc⟩, ⟨rfl, rfl, rfl, by simp, fun k hk _ => heap_alloc_old w.drew _ hk⟩, gm, Or.inr (Nat.le_refl _)⟩
    · simp only [Array.size_append, List.size_toArray, List.length_cons, List.length_nil, size_zeroCells, Value.cells]
      simp
      omega
    · rw [Array.toList_append, Array.toList_append]
      exact List.take_left
    · intro u hu
      simp only [Array.toList_append, List.mem_append, List.mem_singleton] at hu
      rcases hu with (hu | rfl) | hu
      · exact h3 u (by rw [← h2] at hu; exact List.mem_of_mem_take hu)
      · exact ⟨_, _, _, rfl⟩
      · simp only [Builtin.zeroCells, Value.cells] at hu
        have : u = .slice none 0 0 := by
          simp at hu
          obtain ⟨j, _, rfl⟩ := hu
          simp [Nat.mod_one]
        exact ⟨_, _, _, this⟩
theorem wpList_rung {w : World} {ops : Array Oper} {rest : List Oper} {o : Oper} {a : Act} {Q : Exit → Act → World → Prop} (hgd : o.guard = none) (s x : Operand)
    (ho : o.op = .call { callee := .builtin .append, args := #[s, x], argTypes := #[84, 84] })
    (g cap n : Nat) (vals : List Value) (en : n = vals.length) (hs : a.eval s = .slice (some ⟨g, 0, none⟩) n cap) (R : Rg w g cap vals) (ad c : Nat) (u1 : Option Addr) (u2 u3 : Nat) (hx : a.eval x = .slice (some ⟨ad, 0, none⟩) 1 c) (hc : w.cell? ⟨ad, 0, none⟩ = some (.slice u1 u2 u3)) (hn : vals.length ≤ 1000) (hcm : cap ≤ maxLen)
    (h : ∀ g' cap' w', Rg w' g' cap' (vals ++ [.slice u1 u2 u3]) → w.grownBy w' (some g) → cap' ≤ maxLen → (g' = g ∨ w.heap.size ≤ g') → wpList Tryz.prog ops Q rest (a.put o.dst (.slice (some ⟨g', 0, none⟩) (n + 1) cap')) w') : wpList Tryz.prog ops Q (o :: rest) a w := by
  subst en
  obtain ⟨g', cap', w', hr, h1, h2, h3, h4⟩ := run_rung (w := w) o.type g cap vals R ad c u1 u2 u3 hc hn hcm
  refine wpList_plain hgd fun K hK => ?_
  unfold Oper.wp execOp
  simp only [ho, resolve, invoke, builtin, Sem.run_bind, Sem.run_pure, Result.andThen_ok, List.map_toArray, List.map_cons, List.map_nil, hs, hx, hr]
  exact hK _ _ (h g' cap' w' h1 h2 h3 h4)
end Go.Proofs.YtfalncbcomlelaaGreatDoor.Wt

namespace Go.Proofs.YtfalncbcomlelaaGreatDoor.Mo
open Go.RowKit Tn

/-- How many of Unit to the k live k years. -/
def al (q : Nat → Int) : Nat → Int
  | 0 => 1
  | k + 1 => al q k * (10000000 - q k)
/-- A row of numbers of one's own: those up to k are the survivors. -/
def Sv (x : World) (g n k : Nat) (q : Nat → Int) : Prop := ∃ cs : Array Value, Blk x g cs 56 ∧ cs.size = n ∧ (∀ (i : Nat) z v, cs[i]? ≠ some (.int z v)) ∧ ∀ i, i ≤ k → ∃ a l c, cs[i]? = some (.slice a l c) ∧ Nn x a l c (al q i)
theorem Sv.grow {x x' : World} {g n k : Nat} {q : Nat → Int} (h : Sv x g n k q) (b : Below x.heap.size x x') : Sv x' g n k q := by
  obtain ⟨cs, K, e, ni, f⟩ := h
  refine ⟨cs, K.below b K.lt, e, ni, fun i hi => ?_⟩
  obtain ⟨a, l, c, e, h⟩ := f i hi
  exact ⟨a, l, c, e, h.grow b⟩
theorem Sv.push {x : World} {g n k : Nat} {q : Nat → Int} {a : Option Addr} {l c : Nat} (h : Sv x g n k q) (m : Nn x a l c (al q (k + 1))) (hk : k + 1 < n) : Sv (x.setCell ⟨g, k + 1, none⟩ (.slice a l c)) g n (k + 1) q := by
  obtain ⟨cs, K, e, ni, f⟩ := h
  refine ⟨_, bput K (k + 1) _, by simp [e], fun i z v => ?_, fun i hi => ?_⟩
  · rw [Array.getElem?_setIfInBounds]
    split
    · split
      · simp
      · simp
    · exact ni i z v
  · by_cases c0 : i = k + 1
    · subst c0
      refine ⟨a, l, c, ?_, m.set (m.off K ni) _ _⟩
      rw [Array.getElem?_setIfInBounds, if_pos rfl, if_pos (by omega)]
    · obtain ⟨a', l', c', e', h'⟩ := f i (by omega)
      refine ⟨a', l', c', ?_, h'.set (h'.off K ni) _ _⟩
      rw [Array.getElem?_setIfInBounds, if_neg (by omega)]
      exact e'
theorem Of_n (V : Int) (w : World) (h0 : 0 ≤ V) (h1 : V < 18446744073709551616) : Calls Tryz.prog 59 #[.int .u64 V] w fun e w' => ∃ a l c, e = .returned (.agg #[.slice a l c]) ∧ Nn w' a l c V ∧ Below w.heap.size w w' := by
  refine (Of_any V w h0 h1).mono ?_
  rintro e w' ⟨r, zs, rfl, q1, n1, v1, b1⟩
  obtain ⟨a1, l1, c1, rfl⟩ := q1.shape
  exact ⟨a1, l1, c1, rfl, ⟨zs, q1, n1, v1⟩, b1⟩
/-- make([]whole.Nat, n). -/
theorem make_nats {w : World} {ops : Array Oper} {rest : List Oper} {o : Oper} {a : Act} {Q : Exit → Act → World → Prop} (hg : o.guard = none) (l c : Operand) (hop : o.op = Op.makeSlice 84 l c)
    (n : Nat) (hl : a.eval l = .int .i64 (n : Int)) (hc : a.eval c = .int .i64 (n : Int)) (hn : n ≤ 4096)
    (hK : ∀ cs : Array Value, cs.size = n → (∀ (i : Nat) z v, cs[i]? ≠ some (.int z v)) → wpList Tryz.prog ops Q rest (a.put o.dst (.slice (some ⟨w.heap.size, 0, none⟩) n n)) (w.alloc (.cells cs 56))) : wpList Tryz.prog ops Q (o :: rest) a w := by
  obtain ⟨i, hi, hz0, hz1, hz2⟩ := Wt.info_parts (show (Tryz.prog.info? 56).map (fun i => (i.zero, i.size, i.bytes)) = some (some (.agg #[.slice none 0 0]), 1, 24) by kernel_rfl)
  refine wpList_plain hg fun K hK' => ?_
  have hr := run_make (P := Tryz.prog) w 84 56 i _ (by kernel_rfl) hi hz0 .i64 .i64 n n (by omega) (Int.le_refl _) (by rw [hz2]; omega) (by omega)
  rw [hz1] at hr
  simp only [Int.toNat_natCast, Nat.mul_one] at hr
  unfold Oper.wp
  simp [execOp, hop, hl, hc, hr, Result.andThen]
  refine hK' _ _ (hK _ (by simp [size_madeCells]) ?_)
  intro i z v e
  rw [Array.getElem?_eq_some_iff] at e
  obtain ⟨hi, e⟩ := e
  simp [madeCells, Value.cells, Nat.mod_one] at e
end Go.Proofs.YtfalncbcomlelaaGreatDoor.Mo

namespace Go.Proofs.YtfalncbcomlelaaGreatDoor.Mo
open Go.RowKit Tn Ip

theorem al_bd {q : Nat → Int} {L : Nat} (hq : ∀ k, k < L → 0 ≤ q k ∧ q k ≤ 10000000) : ∀ k, k ≤ L → 0 ≤ al q k ∧ al q k ≤ ((2 ^ (24 * k) : Nat) : Int)
  | 0, _ => by simp [al]
  | k + 1, h => by
    obtain ⟨a, b⟩ := al_bd hq k (by omega)
    obtain ⟨c, d⟩ := hq k (by omega)
    have e : 2 ^ (24 * (k + 1)) = 2 ^ (24 * k) * 16777216 := by rw [Nat.mul_succ, Nat.pow_add]
    rw [e, Int.natCast_mul]
    simp only [al]
    refine ⟨Int.mul_nonneg a (by omega), Int.mul_le_mul b (by show _ ≤ (16777216 : Int); omega) (by omega) (by omega)⟩
theorem al_pw {q : Nat → Int} {L : Nat} (hq : ∀ k, k < L → 0 ≤ q k ∧ q k ≤ 10000000) {k : Nat} (h : k ≤ L) (hL : L ≤ 140) : al q k < pw 60 := by
  have a := (al_bd hq k h).2
  rw [pw_64]
  have := Nat.pow_lt_pow_right (show 1 < 2 by decide) (show 24 * k < 64 * 60 by omega)
  omega
theorem rate_pw {v : Int} (h0 : 0 ≤ v) (h1 : v ≤ 10000000) : 10000000 - v < pw 60 := by
  have : (((10000000 - v).toNat : Nat) : Int) < pw 60 := lt_64 (B := 24) (by omega) (by decide)
  omega
theorem keepc {W x : World} {b i : Nat} {v : Value} (d : Below W.heap.size W x) (h : W.cell? ⟨b, i, none⟩ = some v) : x.cell? ⟨b, i, none⟩ = some v := (d.cell (p := ⟨b, i, none⟩) (L.lt_of_cell h)).trans h
set_option maxRecDepth 100000 in
set_option maxHeartbeats 3200000 in
theorem survivors_n (ar : Option Addr) (M cap : Nat) (q : Nat → Int) (w : World) (hc : 0 < M → ∃ b o, ar = some ⟨b, o, none⟩ ∧ ∀ k, k < M → w.cell? ⟨b, o + k, none⟩ = some (.int .i64 (q k))) (hq : ∀ k, k < M → 0 ≤ q k ∧ q k ≤ 10000000) (hL : M ≤ 140) :
    Calls Tryz.prog 49 #[.slice ar M cap] w fun e w' => ∃ g, e = .returned (.slice (some ⟨g, 0, none⟩) (M + 1) (M + 1)) ∧ w.heap.size ≤ g ∧ Sv w' g (M + 1) M q ∧ Below w.heap.size w w' := by
  have x1 : IntKind.i64.wrap ((M : Int) + 1) = ((M + 1 : Nat) : Int) := by rw [show (M : Int) + 1 = ((M + 1 : Nat) : Int) by omega]; exact Wt.wrapI _ (by omega) (by omega)
  obtain ⟨N, hN⟩ : ∃ N, M + 1 = N := ⟨_, rfl⟩
  rw [hN] at x1
  have HN : Hid (M + 1 = N) := hN
  have hN3 : (0 : Int) < (N : Int) := by omega
  have O1 := fun x => Of_n 1 x (by decide) (by decide)
  rw [hN]
  clear hN
  go_enter Tryz.func49, Tryz.ntmps49
  go_wp2_with (first
    | (at_make; refine make_nats rfl _ _ rfl N rfl rfl (by have := HN.out; omega) ?_; intro cs hs hi; have K0 := Blk.new w cs 56; have pr : Below w.heap.size w (w.alloc (.cells cs 56)) := (Below.refl _ _).alloc (Nat.le_refl _) _)
    | (go_at_call 59; refine (O1 _).mono ?_; rintro e w1 ⟨a1, l1, c1, rfl, n1, b1⟩; have K1 := K0.below b1 K0.lt; have z0 := K1.at 0; have z1 := K1.free 0; rw [Array.getElem?_eq_getElem (show 0 < cs.size by have := HN.out; omega)] at z0; have p1 := bel' pr b1)
    | fail)
  have S0 : Sv (w1.setCell ⟨w.heap.size, 0, none⟩ (.slice a1 l1 c1)) w.heap.size N 0 q := by
    refine ⟨_, bput K1 0 _, by simp [hs], fun i z v => ?_, fun i hi0 => ?_⟩
    · rw [Array.getElem?_setIfInBounds]
      split
      · split
        · simp
        · simp
      · exact hi i z v
    · obtain rfl : i = 0 := by omega
      refine ⟨a1, l1, c1, ?_, n1.set (n1.off K1 hi) _ _⟩
      rw [Array.getElem?_setIfInBounds, if_pos rfl, if_pos (by have := HN.out; omega)]
  have pS := p1.setCell (p := ⟨w.heap.size, 0, none⟩) (Nat.le_refl _) (.slice a1 l1 c1)
  generalize w1.setCell ⟨w.heap.size, 0, none⟩ (.slice a1 l1 c1) = W at *
  clear K0 K1 z0 z1 n1 b1 pr p1 hs hi O1 x1 hN3
  go_loopw [4, 14] (fun _ i wr => ∃ k : Nat, i = .int .i64 k ∧ k ≤ M ∧ Sv wr w.heap.size N k q ∧ Below w.heap.size w wr) (fun _ i _ => M - (RowKit.intOf i).toNat)
  case atStart => exact ⟨0, rfl, Nat.zero_le _, S0, pS⟩
  case round =>
    clear S0 pS
    obtain ⟨k, rfl, hk, S, p⟩ := hrel
    by_cases lt : k < M
    · obtain ⟨b, o, rfl, hcell⟩ := hc (by omega)
      have k1 := keepc p (hcell k lt)
      have q1 := hq k lt
      obtain ⟨v, hv⟩ : ∃ v, q k = v := ⟨_, rfl⟩
      rw [hv] at q1
      have y1 : IntKind.i64.wrap (10000000 - v) = 10000000 - v := Wt.wrapI _ (by omega) (by omega)
      have y2 : IntKind.u64.wrap (10000000 - v) = 10000000 - v := Wt.wrapU _ (by omega) (by omega)
      obtain ⟨j, hj⟩ : ∃ j, k + 1 = j := ⟨_, rfl⟩
      have y3 : IntKind.i64.wrap ((k : Int) + 1) = (j : Int) := by rw [show (k : Int) + 1 = (j : Int) by omega]; exact Wt.wrapI _ (by omega) (by omega)
      obtain ⟨cs, K, hs, hi, hf⟩ := S
      obtain ⟨ak, lk, ck, ek, nk⟩ := hf k (Nat.le_refl _)
      have k2 := (K.at k).trans ek
      have nN := HN.out
      have U1 := fun x => Of_n (10000000 - v) x (by omega) (by omega)
      have U2 := fun x (bb : Below wr.heap.size wr x) a l c (h : Nn x a l c (10000000 - v)) => Mul_n (nk.grow bb) h (al_pw hq (show k ≤ M by omega) hL) (rate_pw q1.1 q1.2) (by unfold MulOK; omega)
      have e1 : al q k * (10000000 - v) = al q (k + 1) := by rw [← hv]; rfl
      rw [e1] at U2
      rw [hv] at k1
      have HQ : Hid (k + 1 = j) := hj
      have i1 : (0 : Int) ≤ (k : Int) := by omega
      have i2 : ((k : Int)).toNat = k := by omega
      have i3 : (0 : Int) ≤ (j : Int) := by omega
      have i4 : ((j : Int)).toNat = j := by omega
      have i5 : (k : Int) < (M : Int) := by omega
      have i6 : (k : Int) < (N : Int) := by omega
      have i7 : (j : Int) < (N : Int) := by omega
      have lb := _root_.Go.Proofs.YtfalncbcomlelaaGreatDoor.L.lt_of_cell (hcell k lt)
      have n1 : b ≠ w.heap.size := by omega
      have n2 : w.heap.size ≠ b := by omega
      have n3 : k ≠ j := by omega
      have n4 : j ≠ k := by omega
      have ej : cs[j]? = some (cs[j]'(by omega)) := Array.getElem?_eq_getElem _
      have SV : Sv wr w.heap.size N k q := ⟨cs, K, hs, hi, hf⟩
      generalize cs[j]'(by omega) = v0 at ej
      clear hf ek hs hi hv hj e1 nN hc hcell lb hq q1 nk
      go_wp2_with fail
      go_region_held3 (fun x => x.cell? ⟨w.heap.size, k, none⟩ = some (.slice ak lk ck) ∧ x.cell? ⟨b, o + k, none⟩ = some (.int .i64 v)) (first | exact ⟨x2, x3⟩ | go_keep) (first
        | (go_at_call 50; (have z := d1); (refine (U2 _ d1 _ _ _ m1).mono ?_); (rintro e w3 ⟨a3, l3, c3, rfl, m3, b3⟩); (have d3 := bel' d1 b3); (have K3 := K.below d3 K.lt); (have x0 := (d3.cell (p := ⟨w.heap.size, k, none⟩) K.lt).trans k2); (have x1 := keepc d3 k1); (have z0 := (K3.at j).trans ej); (have z1 := K3.free j); (have x2 : (w3.setCell ⟨w.heap.size, j, none⟩ (.slice a3 l3 c3)).cell? ⟨w.heap.size, k, none⟩ = some (.slice ak lk ck) := (World.cell?_setCell_other _ _ _ _ (by first | exact (fun e => n4 (congrArg Addr.off e)) | exact (fun e => n3 (congrArg Addr.off e)))).trans x0); (have x3 : (w3.setCell ⟨w.heap.size, j, none⟩ (.slice a3 l3 c3)).cell? ⟨b, o + k, none⟩ = some (.int .i64 v) := (World.cell?_setCell_other _ _ _ _ (by first | exact (fun e => n1 (congrArg Addr.block e)) | exact (fun e => n2 (congrArg Addr.block e)))).trans x1))
        | (go_at_call 59; (refine (U1 _).mono ?_); (rintro e w2 ⟨a2, l2, c2, rfl, m1, b2⟩); (have d1 := undrew b2); (have y0 := (d1.cell (p := ⟨w.heap.size, k, none⟩) K.lt).trans k2); (have y9 := keepc d1 k1))
        | fail)
      have SE := (SV.grow d3).push m3 (by have := HQ.out; have := HN.out; omega)
      have pE := (bel' p d3).setCell (p := ⟨w.heap.size, j, none⟩) (Nat.le_refl _) (.slice a3 l3 c3)
      rw [HQ.out] at SE
      go_wp2_with fail
      go_roundw
      case rel => exact ⟨j, by go_num, by have := HQ.out; omega, SE, pE⟩
      case measure => simp [RowKit.intOf]; have := HQ.out; omega
    · obtain rfl : k = M := by omega
      go_wp2
      go_ret
      exact ⟨_, rfl, Nat.le_refl _, S, p⟩
end Go.Proofs.YtfalncbcomlelaaGreatDoor.Mo
