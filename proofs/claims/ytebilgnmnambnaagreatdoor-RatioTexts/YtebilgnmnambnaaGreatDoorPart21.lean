import Derived.Test.YtebilgnmnambnaaGreatDoorPart20
import Derived.Deep.RegionHeld3
import Derived.Laws.Strings
import Derived.Test.YtebilgnmnambnaaGreatDoorPart02

namespace Go.Proofs.YtebilgnmnambnaaGreatDoor
open Go.RowKit Tn
set_option maxRecDepth 100000 in
set_option maxHeartbeats 800000 in
theorem by_any (v1 v2 : Value) (xs ys : List Int) (w : World) (h1 : Rd w v1 xs) (h2 : Rd w v2 ys) (n1 : Nm xs) (n2 : Nm ys) (hy : 0 < val ys) (lx : xs.length ≤ 274877906944) :
    Calls Tryz.prog 104 #[.agg #[v1], .agg #[v2]] w fun e w' => ∃ r zs, e = .returned (.agg #[r]) ∧ Rd w' r zs ∧ Nm zs ∧ val zs = val xs / val ys ∧ Below w.heap.size w w' := by
  have H1 : Hid (Rd w v1 xs) := h1
  have H2 : Hid (Rd w v2 ys) := h2
  obtain ⟨a1, m1, c1, rfl⟩ := h1.shape
  obtain ⟨a2, m2, c2, rfl⟩ := h2.shape
  clear h1 h2
  have pr : Below w.heap.size w (((w.alloc (.cells #[.slice a1 m1 c1] 65)).alloc (.cells #[.slice a2 m2 c2] 65)).alloc (.cells #[.slice none 0 0] 65)) := (((Below.refl _ _).alloc (Nat.le_refl _) _).alloc (by simp) _).alloc (by simp; omega) _
  go_enter Tryz.func104, Tryz.ntmps104
  go_wp2_with fail
  refine (IsOne_any _ ys _ (H2.out.grow pr) n2).mono ?_
  rintro e w1 ⟨rfl, hb⟩
  have X0 := (((Bx.new w (.slice a1 m1 c1) 65).alloc (.cells #[.slice a2 m2 c2] 65)).alloc (.cells #[.slice none 0 0] 65)).below hb
  have X1 := ((Bx.new (w.alloc (.cells #[.slice a1 m1 c1] 65)) (.slice a2 m2 c2) 65).alloc (.cells #[.slice none 0 0] 65)).below hb
  have X2 := (Bx.new ((w.alloc (.cells #[.slice a1 m1 c1] 65)).alloc (.cells #[.slice a2 m2 c2] 65)) (.slice none 0 0) 65).below hb
  simp only [World.size_alloc] at X1 X2
  have p1 := pr.trans (hb.mono pr.size)
  have x0 := X0.1; have x1 := X1.1; have x2 := X2.1; have x2' := X2.2
  by_cases h : val ys = 1
  · have hd : decide (val ys = 1) = true := decide_eq_true h
    have HV : Hid (val xs = val xs / val ys) := by show _ = _; rw [h]; simp
    rw [hd]
    clear h hd
    have S2 := (X2.set (.slice a1 m1 c1)).1
    go_wp2
    refine bodyPost_ret (v := .agg #[.slice a1 m1 c1]) (by simp [results, Tryz.results104, go_sem, S2]) rfl ⟨_, xs, rfl, (H1.out.grow p1).box X2, n1, HV.out, below_put p1 (by omega) _⟩
  · have hd : decide (val ys = 1) = false := decide_eq_false h
    rw [hd]
    clear h hd
    go_wp2_with (go_at_call 115; go_must (refine (DivMod_any _ _ xs ys _ (H1.out.grow p1) (H2.out.grow p1) n1 n2 hy (by omega)).mono ?_; rintro e w2 ⟨r1, r2, zs, rs, rfl, hr1, hn1, hr2, -, hv1, -, hb2⟩; obtain ⟨q1, q2, q3, rfl⟩ := hr1.shape; obtain ⟨q4, q5, q6, rfl⟩ := hr2.shape; have HV : Hid _ := hv1; clear hv1; have Y2 := ((X2.below hb2).alloc (.cells #[.slice q1 q2 q3] 65)).alloc (.cells #[.slice q4 q5 q6] 65); have y2 := Y2.1; have y2' := Y2.2))
    have S2 := (Y2.set (.slice q1 q2 q3)).1
    have pa : Below w2.heap.size w2 ((w2.alloc (.cells #[.slice q1 q2 q3] 65)).alloc (.cells #[.slice q4 q5 q6] 65)) := ((Below.refl w2.heap.size w2).alloc (Nat.le_refl _) _).alloc (by simp) _
    have p2 := p1.trans (hb2.mono p1.size)
    have p3 := p2.trans (pa.mono p2.size)
    refine bodyPost_ret (v := .agg #[.slice q1 q2 q3]) (by simp [results, Tryz.results104, go_sem, S2]) rfl ⟨_, zs, rfl, (hr1.grow pa).box Y2, hn1, HV.out, below_put p3 (by omega) _⟩
end Go.Proofs.YtebilgnmnambnaaGreatDoor

namespace Go.Proofs.YtebilgnmnambnaaGreatDoor
open Go.RowKit Tn
def Dg (b : UInt8) : Prop := 48 ≤ (b.toNat : Int) ∧ (b.toNat : Int) ≤ 57
def Digs (s : ByteArray) : Prop := 0 < s.size ∧ ∀ i (h : i < s.size), Dg s[i]
theorem empty_iff (s : ByteArray) : s.toList.isEmpty = decide (s.size = 0) := by
  rw [ByteArray.toList_eq, Bool.eq_iff_iff, List.isEmpty_iff, decide_eq_true_iff, ← List.length_eq_zero_iff, Array.length_toList]
  rfl
set_option maxRecDepth 100000 in
theorem isDigits_yes (s : ByteArray) (w : World) (hs : s.size ≤ 9223372036854775807) (h : Digs s) :
    Calls Tryz.prog 158 #[.string s] w fun e w' => e = .returned (.bool true) ∧ w' = w := by
  have he : Hid (s.toList.isEmpty = false) := by show _ = _; rw [empty_iff, decide_eq_false_iff_not]; have := h.1; omega
  go_enter Tryz.func158, Tryz.ntmps158
  go_wp2_with fail
  go_loopw [6] (fun i wr => ∃ k : Nat, k ≤ s.size ∧ i = .int .i64 k ∧ wr = w) (fun i _ => s.size - (intOf i).toNat)
  case atStart => exact ⟨0, Nat.zero_le _, rfl, rfl⟩
  case round =>
    obtain ⟨k, hk, rfl, rfl⟩ := hrel
    by_cases hlt : k < s.size
    · obtain ⟨d1, d2⟩ := h.2 k hlt
      go_wp2
      go_roundw
      case rel => exact ⟨k + 1, by omega, by go_num, trivial⟩
      case measure => simp [intOf]; omega
    · go_wp2
      go_ret
      exact ⟨by rw [he.out]; rfl, rfl⟩
set_option maxRecDepth 100000 in
theorem isDigits_no (s : ByteArray) (w : World) (hs : s.size ≤ 9223372036854775807) (h : ¬ Digs s) :
    Calls Tryz.prog 158 #[.string s] w fun e w' => e = .returned (.bool false) ∧ w' = w := by
  have H : Hid (¬ Digs s) := h
  clear h
  go_enter Tryz.func158, Tryz.ntmps158
  go_wp2_with fail
  go_loopw [6] (fun i wr => ∃ k : Nat, k ≤ s.size ∧ i = .int .i64 k ∧ Hid (∀ j (h : j < s.size), j < k → Dg s[j]) ∧ wr = w) (fun i _ => s.size - (intOf i).toNat)
  case atStart => exact ⟨0, Nat.zero_le _, rfl, fun j _ hj => absurd hj (by omega), rfl⟩
  case round =>
    obtain ⟨k, hk, rfl, hd, rfl⟩ := hrel
    by_cases hlt : k < s.size
    · by_cases hg : Dg s[k]
      · have N : Hid (∀ j (h : j < s.size), j < k + 1 → Dg s[j]) := fun j hj hjk => by
          by_cases e : j = k
          · subst e; exact hg
          · exact hd.out j hj (by omega)
        obtain ⟨d1, d2⟩ := hg
        go_wp2
        go_roundw
        case rel => exact ⟨k + 1, by omega, by go_num, N, trivial⟩
        case measure => simp [intOf]; omega
      · have hg' : (s[k].toNat : Int) < 48 ∨ 57 < (s[k].toNat : Int) := by unfold Dg at hg; omega
        clear hg
        rcases hg' with hg | hg
        · go_wp2
          go_ret
          exact ⟨rfl, rfl⟩
        · go_wp2
          all_goals first | (go_ret; exact ⟨rfl, rfl⟩) | (exfalso; omega)
    · have he : Hid (s.toList.isEmpty = true) := by
        show _ = _
        rw [empty_iff, decide_eq_true_iff]
        by_cases e : s.size = 0
        · exact e
        · exact absurd ⟨by omega, fun j hj => hd.out j hj (by omega)⟩ H.out
      go_wp2
      go_ret
      exact ⟨by rw [he.out]; rfl, rfl⟩
end Go.Proofs.YtebilgnmnambnaaGreatDoor

namespace Go.Proofs.YtebilgnmnambnaaGreatDoor
open Go.RowKit Tn
set_option maxRecDepth 100000 in
theorem isNatural_no (s : ByteArray) (w : World) (hs : s.size ≤ 9223372036854775807) (h : ¬ Digs s) :
    Calls Tryz.prog 107 #[.string s] w fun e w' => e = .returned (.bool false) ∧ w' = w := by
  go_enter Tryz.func107, Tryz.ntmps107
  go_wp2_with (go_at_call 158; go_must (refine (isDigits_no s _ hs h).mono ?_; rintro e w' ⟨rfl, rfl⟩))
  go_ret
  exact ⟨rfl, rfl⟩
set_option maxRecDepth 100000 in
theorem isNatural_long (s : ByteArray) (w : World) (hs : s.size ≤ 9223372036854775807) (h : Digs s) (h0 : (s[0]'h.1).toNat ≠ 48) :
    Calls Tryz.prog 107 #[.string s] w fun e w' => e = .returned (.bool true) ∧ w' = w := by
  have hz := h.1
  have hb : ((s[0].toNat : Int) != 48) = true := by rw [bne_iff_ne]; omega
  go_enter Tryz.func107, Tryz.ntmps107
  go_wp2_with (go_at_call 158; go_must (refine (isDigits_yes s _ hs h).mono ?_; rintro e w' ⟨rfl, rfl⟩))
  go_ret
  exact ⟨rfl, rfl⟩
set_option maxRecDepth 100000 in
theorem isNatural_nought (s : ByteArray) (w : World) (hs : s.size ≤ 9223372036854775807) (h : Digs s) (h0 : (s[0]'h.1).toNat = 48) :
    Calls Tryz.prog 107 #[.string s] w fun e w' => e = .returned (.bool (s.toList == [48])) ∧ w' = w := by
  have hz := h.1
  have hb : ((s[0].toNat : Int) != 48) = false := by rw [bne_eq_false_iff_eq]; omega
  go_enter Tryz.func107, Tryz.ntmps107
  go_wp2_with (go_at_call 158; go_must (refine (isDigits_yes s _ hs h).mono ?_; rintro e w' ⟨rfl, rfl⟩))
  go_ret
  exact ⟨rfl, rfl⟩
def Natl (s : ByteArray) : Prop := Digs s ∧ (s.size = 1 ∨ ∀ h : 0 < s.size, s[0].toNat ≠ 48)
theorem one_nought (s : ByteArray) (hz : 0 < s.size) (h : s[0].toNat = 48) : (s.toList == [48]) = decide (s.size = 1) := by
  rw [ByteArray.toList_eq]
  obtain ⟨⟨l⟩⟩ := s
  match l, hz, h with
  | [], hz, _ => exact absurd hz (by decide)
  | [x], _, h =>
    have e : x = 48 := UInt8.toNat_inj.1 h
    subst e
    rfl
  | x :: y :: t, _, _ =>
    have e : (ByteArray.mk ⟨x :: y :: t⟩).size = t.length + 2 := rfl
    rw [e]
    simp
theorem isNatural_yes (s : ByteArray) (w : World) (hs : s.size ≤ 9223372036854775807) (h : Natl s) :
    Calls Tryz.prog 107 #[.string s] w fun e w' => e = .returned (.bool true) ∧ w' = w := by
  by_cases h0 : (s[0]'h.1.1).toNat = 48
  · have := isNatural_nought s w hs h.1 h0
    rw [one_nought s h.1.1 h0] at this
    rcases h.2 with e | e
    · rw [decide_eq_true e] at this; exact this
    · exact absurd h0 (e h.1.1)
  · exact isNatural_long s w hs h.1 h0
theorem isNatural_not (s : ByteArray) (w : World) (hs : s.size ≤ 9223372036854775807) (h : ¬ Natl s) :
    Calls Tryz.prog 107 #[.string s] w fun e w' => e = .returned (.bool false) ∧ w' = w := by
  by_cases d : Digs s
  · by_cases h0 : (s[0]'d.1).toNat = 48
    · have := isNatural_nought s w hs d h0
      rw [one_nought s d.1 h0] at this
      by_cases e : s.size = 1
      · exact absurd ⟨d, Or.inl e⟩ h
      · rw [decide_eq_false e] at this; exact this
    · exact absurd ⟨d, Or.inr fun _ => h0⟩ h
  · exact isNatural_no s w hs d
end Go.Proofs.YtebilgnmnambnaaGreatDoor

namespace Go.Proofs.YtebilgnmnambnaaGreatDoor.Mo
open Go.RowKit Dc
def natB (s : ByteArray) : Bool := s.data.toList.all (fun c => decide (48 ≤ c.toNat ∧ c.toNat ≤ 57)) && decide (0 < s.size) && (decide (s.size = 1) || !decide (bt s 0 = 48))
def is0 (s : ByteArray) : Bool := s.toList == [48]
def is1 (s : ByteArray) : Bool := s.toList == [49]
theorem all_iff (s : ByteArray) : s.data.toList.all (fun c => decide (48 ≤ c.toNat ∧ c.toNat ≤ 57)) = true ↔ ∀ i (h : i < s.size), Dg s[i] := by
  rw [List.all_eq_true]
  constructor
  · intro h i hi
    have := h (s.data.toList[i]'(by simpa using hi)) (List.getElem_mem _)
    simp only [decide_eq_true_iff] at this
    show 48 ≤ ((s[i]).toNat : Int) ∧ ((s[i]).toNat : Int) ≤ 57
    have e : s[i] = s.data.toList[i]'(by simpa using hi) := rfl
    rw [e]
    omega
  · intro h c hc
    obtain ⟨i, hi, rfl⟩ := List.getElem_of_mem hc
    have := h i (by simpa using hi)
    unfold Go.Proofs.YtebilgnmnambnaaGreatDoor.Dg at this
    have e : s[i]'(by simpa using hi) = s.data.toList[i] := rfl
    rw [e] at this
    simp only [decide_eq_true_iff]
    omega
theorem natB_iff (s : ByteArray) : natB s = true ↔ Natl s := by
  unfold natB Natl Digs
  rw [Bool.and_eq_true, Bool.and_eq_true, all_iff, decide_eq_true_iff, Bool.or_eq_true, decide_eq_true_iff]
  have e : (!decide (bt s 0 = 48)) = true ↔ ∀ h : 0 < s.size, s[0].toNat ≠ 48 := by
    by_cases h0 : 0 < s.size
    · rw [bt_in h0]
      simp [h0]
    · rw [bt_out (by omega)]
      simp [h0]
  rw [e]
  constructor
  · rintro ⟨⟨a, b⟩, c⟩; exact ⟨⟨b, a⟩, c⟩
  · rintro ⟨⟨b, a⟩, c⟩; exact ⟨⟨a, b⟩, c⟩
theorem IsNatural_any (s : ByteArray) (w : World) (hs : s.size ≤ 9223372036854775807) :
    Calls Tryz.prog 107 #[.string s] w fun e w' => e = .returned (.bool (natB s)) ∧ w' = w := by
  rcases h : natB s with _ | _
  · exact isNatural_not s w hs (fun e => by rw [(natB_iff s).2 e] at h; cases h)
  · exact isNatural_yes s w hs ((natB_iff s).1 h)
def whB (s : ByteArray) : Bool := natB (rest s) && !(neg s && is0 (rest s))
theorem rest_size (s : ByteArray) : (rest s).size ≤ s.size := by rw [rest_ex, ex_size]; omega
set_option maxHeartbeats 800000 in
set_option maxRecDepth 100000 in
theorem IsWhole_any (s : ByteArray) (w : World) (hs : s.size ≤ 9223372036854775807) :
    Calls Tryz.prog 106 #[.string s] w fun e w' => e = .returned (.bool (whB s)) ∧ Below w.heap.size w w' := by
  have hr := rest_size s
  have C := fun W => CutSign_any s W hs
  have N := fun W => IsNatural_any (rest s) W (by omega)
  unfold whB is0
  generalize rest s = z at *
  generalize neg s = g at *
  generalize natB z = b at *
  obtain ⟨q, hq⟩ : ∃ q, (z.toList == [48]) = q := ⟨_, rfl⟩
  rw [hq]
  cases b <;> cases g <;> cases q
  all_goals
    go_enter Tryz.func106, Tryz.ntmps106
    go_wp2_with (first
      | (go_at_call 108; (refine (C _).mono ?_); rintro e w' ⟨rfl, b1⟩)
      | (go_at_call 107; (refine (N _).mono ?_); rintro e w' ⟨rfl, rfl⟩))
    go_ret
    exact ⟨rfl, b1⟩
end Go.Proofs.YtebilgnmnambnaaGreatDoor.Mo
