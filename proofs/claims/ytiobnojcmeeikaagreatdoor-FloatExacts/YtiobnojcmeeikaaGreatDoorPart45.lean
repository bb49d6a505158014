import Derived.Test.YtiobnojcmeeikaaGreatDoorPart33
import Derived.Test.YtiobnojcmeeikaaGreatDoorPart30
import Derived.Test.YtiobnojcmeeikaaGreatDoorPart39
import Derived.Test.YtiobnojcmeeikaaGreatDoorPart22
import Derived.Shelf.Spec.TrailingZeros
import Derived.Lib.SmallJoins
import Derived.Deep.RegionHeld3
import Derived.Test.YtiobnojcmeeikaaGreatDoorPart44
import Derived.Test.YtiobnojcmeeikaaGreatDoorPart13

namespace Go.Proofs.YtiobnojcmeeikaaGreatDoor.Mo
open Go.RowKit Dc Tn

theorem pw_1 : pw 1 = 18446744073709551616 := by decide
set_option maxHeartbeats 1600000 in
set_option maxRecDepth 100000 in
theorem shr_low (a : Option Addr) (l cp m : Nat) (c : Int) (cn : Nat) (w : World) (hA : Nn w a l cp (m : Int)) (m1 : m < 18446744073709551616) (m0 : 0 < m) (hc : ¬ c ≥ (nb m : Int)) (c6 : cn ≤ 63) (hq : Int.tdiv c 64 = 0) (hm : Int.tmod c 64 = (cn : Int)) :
    Calls Tryz.prog 36 #[.agg #[.slice a l cp], .int .i64 c] w fun e w' => ∃ a l cp, e = .returned (.agg #[.slice a l cp]) ∧ Nn w' a l cp ((m / 2 ^ cn : Nat) : Int) ∧ Below w.heap.size w w' := by
  have BL : ∀ x, Below w.heap.size w x → Calls Tryz.prog 47 #[.agg #[.slice a l cp]] x fun e w' => e = .returned (.int .i64 (nb m)) ∧ Below x.heap.size x w' := fun x b => BitLen_n (hA.grow b) (m := 1) (by rw [pw_1]; omega) (by decide)
  obtain ⟨xs, ⟨wx, a1, c1, e1, h4, h5, g⟩, nx, hv⟩ := hA
  cases e1
  have ne : 0 < xs.length := by
    rcases List.eq_nil_or_concat xs with rfl | ⟨_, _, rfl⟩
    · simp [val] at hv; omega
    · simp
  have lx : xs.length ≤ 1 := len_of wx nx (n := 1) (by rw [hv, pw_1]; omega)
  have K0 := (Bx.new w (.slice a xs.length cp) 56).alloc (.cells #[.slice none 0 0] 56)
  have K1 := Bx.new (w.alloc (.cells #[.slice a xs.length cp] 56)) (.slice none 0 0) 56
  simp only [World.size_alloc] at K1
  have pr : Below w.heap.size w ((w.alloc (.cells #[.slice a xs.length cp] 56)).alloc (.cells #[.slice none 0 0] 56)) := ((Below.refl _ _).alloc (Nat.le_refl _) _).alloc (by simp) _
  obtain ⟨b0, o0, rfl, cc⟩ := g ne
  have hsl := slice_l0 b0 o0 xs.length cp 0 rfl (by omega)
  have CP := fun (x : World) (b : Below w.heap.size w x) => copied_all (some ⟨b0, o0, none⟩) cp xs x (by omega) (fun _ => ⟨_, _, rfl, cc.grow b⟩)
  clear g
  go_enter Tryz.func36, Tryz.ntmps36
  go_wp2_with (first
    | (go_at_call 47; (refine (BL _ pr).mono ?_); (rintro e w1 ⟨rfl, hb⟩); (have X0 := K0.below hb); (have X1 := K1.below hb); (have x0 := X0.1); (have q1 := bel' pr hb))
    | (go_at_call 52; (have mk := x0); (refine (CP _ q1).mono ?_); (rintro e w2 ⟨g2, rfl, g3, g4, on, c2, b2⟩); (have al := (Below.refl w2.heap.size w2).alloc (Nat.le_refl _) (.cells #[.slice (some ⟨g2, 0, none⟩) xs.length xs.length] 56)); (have b3 := bel' b2 al); (have Y1 := X1.below b3); (have q3 := bel' q1 b3); (have K5 := Bx.new w2 (.slice (some ⟨g2, 0, none⟩) xs.length xs.length) 56); (have k5 := K5.1))
    | (go_at_call 53; (have mk := k5); (refine (shiftDown_any g2 0 xs.length xs.length xs cn _ rfl wx c6 (by omega) (c2.grow al) (on.own.grow al)).mono ?_); (rintro e w6 ⟨X, rfl, hXl, hXw, hXv, hXc, hXr⟩); (have Z5 := K5.wr hXr (by omega)); (have z5 := Z5.1); (have Z1 := Y1.wr hXr (by have := X1.lt; have := b2.size; omega)); (have q6 : Below w.heap.size w w6 := q3.trans (hXr.below (B := w.heap.size) (by have := q1.size; omega) q3.size)); (have T := trim_rd (some ⟨g2, 0, none⟩) xs.length xs.length X w6 hXl.symm hXw (by omega) (by omega) (fun _ => ⟨_, _, rfl, hXc⟩)))
    | (go_at_call 37; (have mk := z5); (refine T.mono ?_); (rintro e w7 ⟨n7, zs, rfl, hzs, hrd, hnm, hvz, b7⟩); (have U1 := Z1.below b7); (have u1 := U1.1); (have uf := U1.2); (have q7 := bel' q6 b7))
    | fail)
  have S2 := (U1.set (.slice (some ⟨g2, 0, none⟩) n7 xs.length)).1
  exact bodyPost_ret (v := .agg #[.slice (some ⟨g2, 0, none⟩) n7 xs.length]) (by simp [results, Tryz.results36, go_sem, S2]) rfl ⟨_, _, _, rfl, ⟨zs, hrd.box U1, hnm, by rw [hvz, hXv, hv]; norm_cast⟩, below_put q7 (by omega) _⟩
theorem gDb : Tryz.prog.globalNamed "math/bits.deBruijn64tab" = some 1 := by kernel_rfl
def dbT : List Int := List.map (fun n : Nat => (n : Int)) Go.Lib.deBruijn64tab
/-- The table that counts the noughts at a word's low end. -/
def Gz (w : World) : Prop := ∀ w', Below w.heap.size w w' → Go.Lib.TabIs Tryz.prog w' "math/bits.deBruijn64tab" .u8 dbT
theorem Gz.grow {w w' : World} (h : Gz w) (b : Below w.heap.size w w') : Gz w' := fun w2 b2 => h w2 (bel' b b2)
theorem gz_of {w : World} (h : Go.Lib.TabIs Tryz.prog w "math/bits.deBruijn64tab" .u8 dbT) : Gz w := fun _ b => Go.Joins.var_stays gDb h b (Nat.le_refl _)
theorem Gz.at {w : World} (h : Gz w) : Go.Proofs.TabAt 1 Go.Lib.deBruijn64tab w := by
  intro j hj
  have := h w (Below.refl _ _)
  unfold Go.Lib.TabIs at this
  rw [World.var?_cell gDb this j]
  simp [dbT, List.getD_eq_getElem?_getD, hj]
set_option maxHeartbeats 1600000 in
set_option maxRecDepth 100000 in
theorem tz_word (a : Option Addr) (l cp m : Nat) (w : World) (hA : Nn w a l cp (m : Int)) (m1 : m < 18446744073709551616) (m0 : 0 < m) (G : Gz w) :
    Calls Tryz.prog 35 #[.agg #[.slice a l cp]] w fun e w' => e = .returned (.int .i64 (Go.Lib.ctz 64 m)) ∧ Below w.heap.size w w' := by
  obtain ⟨xs, ⟨wx, a1, c1, e1, h4, h5, g⟩, nx, hv⟩ := hA
  cases e1
  have ne : 0 < xs.length := by
    rcases List.eq_nil_or_concat xs with rfl | ⟨_, _, rfl⟩
    · simp [val] at hv; omega
    · simp
  have lx : xs.length ≤ 1 := len_of wx nx (n := 1) (by rw [hv, pw_1]; omega)
  obtain ⟨y, rfl⟩ : ∃ y, xs = [y] := by
    match xs, ne, lx with
    | [y], _, _ => exact ⟨y, rfl⟩
  have hy : y = (m : Int) := by simpa [val] using hv
  subst hy
  have pr : Below w.heap.size w (w.alloc (.cells #[.slice a 1 cp] 56)) := (Below.refl _ _).alloc (Nat.le_refl _) _
  obtain ⟨b0, o0, rfl, cc⟩ := g ne
  have c0 := cc.at (i := 0) (by simp)
  have lb := cc.lt (by simp)
  rw [Nat.add_zero] at c0
  have c0' := (pr.cell (p := ⟨b0, o0, none⟩) lb).trans c0
  have TZ := fun (x : World) (b : Below w.heap.size w x) => Any7.bits_TrailingZeros64 Tryz.lays7z m m1 x (fun _ => (G.grow b).at)
  have h0 : ((nth [(m : Int)] 0) == 0) = false := by
    show ((m : Int) == 0) = false
    rw [beq_eq_false_iff_ne]; omega
  have ct : Go.Lib.ctz 64 m < 64 := by
    obtain ⟨_, _, h⟩ := Go.Lib.ctzFrom_spec 64 m m0 m1
    unfold Go.Lib.ctz
    rw [if_neg (by omega)]
    exact h
  have x1 : IntKind.i64.wrap (0 + (Go.Lib.ctz 64 m : Int)) = (Go.Lib.ctz 64 m : Int) := by rw [Int.zero_add]; exact IntWalk.i64_in _ (by omega)
  have n1 : nth [(m : Int)] 0 = (m : Int) := rfl
  rw [n1] at h0 c0 c0'
  generalize Go.Lib.ctz 64 m = cz at *
  clear g cc wx nx hv
  go_enter Tryz.func35, Tryz.ntmps35
  go_wp2_with fail
  go_loop [3] (fun v => v = .int .i64 0) (fun _ => 0)
  case atStart => rfl
  case round =>
    subst hrel
    go_wp2_with (first | (go_at_call 51; (refine (TZ _ pr).mono ?_); (rintro e w1 ⟨rfl, hw⟩); (subst w1)) | fail)
    go_ret
    exact ⟨rfl, pr⟩
end Go.Proofs.YtiobnojcmeeikaaGreatDoor.Mo

namespace Go.Proofs.YtiobnojcmeeikaaGreatDoor.Mo
open Go.RowKit Tn

set_option maxHeartbeats 3200000 in
set_option maxRecDepth 100000 in
theorem WS_nought (g : Bool) (a : Option Addr) (l c : Nat) (E : Int) (u v : ByteArray) (er : Int) (w : World) (hA : Nn w a l c 0) (OF : ∀ x, Calls Tryz.prog 19 #[.int .u64 1] x fun e w' => ∃ a l c, e = .returned (.agg #[.slice a l c]) ∧ Nn w' a l c 1 ∧ Below x.heap.size x w') (IZ : ∀ x, Below w.heap.size w x → Calls Tryz.prog 32 #[.agg #[.slice a l c]] x fun e w' => e = .returned (.bool true) ∧ Below x.heap.size x w') (WR : ∀ x a l c a' l' c', Below w.heap.size w x → Nn x a l c 0 → Nn x a' l' c' 1 → Calls Tryz.prog 33 #[.bool false, .agg #[.slice a l c], .agg #[.slice a' l' c']] x fun e w' => e = .returned (.tuple #[.agg #[.string u, .string v], .int .i64 er]) ∧ Below x.heap.size x w') :
    Calls Tryz.prog 18 #[.bool g, .agg #[.slice a l c], .int .i64 E] w fun e w' => e = .returned (.tuple #[.agg #[.string u, .string v], .int .i64 er]) ∧ Below w.heap.size w w' := by
  have KN := (Bx.new w (.slice a l c) 56).alloc (.cells #[.string ⟨#[]⟩, .string ⟨#[]⟩] 25)
  have KR := Blk.new (w.alloc (.cells #[.slice a l c] 56)) #[.string ⟨#[]⟩, .string ⟨#[]⟩] 25
  have pr : Below w.heap.size w ((w.alloc (.cells #[.slice a l c] 56)).alloc (.cells #[.string ⟨#[]⟩, .string ⟨#[]⟩] 25)) := ((Below.refl _ _).alloc (Nat.le_refl _) _).alloc (by simp) _
  simp only [World.size_alloc] at KR
  go_enter Tryz.func18, Tryz.ntmps18
  go_wp2_with (first
    | (go_at_call 33; (have mk := o3); (refine (WR _ _ _ _ _ _ _ p2 (hA.grow p2) o3).mono ?_); (rintro e w5 ⟨rfl, b5⟩); (have p5 := bel' p2 b5); (have KR5 := KR2.below b5 KR2.lt); (have z0 := KR5.at 0); (have z1 := KR5.at 1); (have y0 := KR5.free 0); (have y1 := KR5.free 1); (simp at z0 z1))
    | (go_at_call 32; (have mk := o2); (refine (IZ _ p1).mono ?_); (rintro e w2 ⟨rfl, b2⟩); (have p2 := bel' p1 b2); (have K2 := K1.below b2); (have KN2 := KN1.below b2); (have KR2 := KR1.below b2 KR1.lt); (have o3 := o2.grow b2); (have s2 := K2.1); (have s3 := KN2.1))
    | (go_at_call 19; (refine (OF _).mono ?_); (rintro e w1 ⟨a1, l1, c1, rfl, o1, b1⟩); (have al1 := (Below.refl w1.heap.size w1).alloc (Nat.le_refl _) (.cells #[.slice a1 l1 c1] 56)); (have bb1 := bel' b1 al1); (have p1 := bel' pr bb1); (have K1 := Bx.new w1 (.slice a1 l1 c1) 56); (have o2 := o1.grow al1); (have KN1 := KN.below bb1); (have KR1 := KR.below bb1 KR.lt); (have s0 := K1.1); (have s1 := KN1.1))
    | fail)
  have KE := bput (bput KR5 0 (.string u)) 1 (.string v)
  have bE := (p5.setCell (p := ⟨w.heap.size + 1, 0, none⟩) (show w.heap.size ≤ w.heap.size + 1 by omega) (.string u)).setCell (p := ⟨w.heap.size + 1, 1, none⟩) (show w.heap.size ≤ w.heap.size + 1 by omega) (.string v)
  have q0 := KE.at 0
  have q1 := KE.at 1
  simp at q0 q1
  exact bodyPost_ret (v := .tuple #[.agg #[.string u, .string v], .int .i64 er]) (by simp [results, Tryz.results18, go_sem, q0, q1]) rfl ⟨rfl, bE⟩
set_option maxHeartbeats 3200000 in
set_option maxRecDepth 100000 in
theorem WS_up (g : Bool) (a : Option Addr) (l c : Nat) (M V E : Int) (u v : ByteArray) (er : Int) (w : World) (hE : E ≥ 0) (hA : Nn w a l c M) (OF : ∀ x, Calls Tryz.prog 19 #[.int .u64 1] x fun e w' => ∃ a l c, e = .returned (.agg #[.slice a l c]) ∧ Nn w' a l c 1 ∧ Below x.heap.size x w') (IZ : ∀ x, Below w.heap.size w x → Calls Tryz.prog 32 #[.agg #[.slice a l c]] x fun e w' => e = .returned (.bool false) ∧ Below x.heap.size x w')
    (SL : ∀ x, Nn x a l c M → Calls Tryz.prog 34 #[.agg #[.slice a l c], .int .i64 E] x fun e w' => ∃ a l c, e = .returned (.agg #[.slice a l c]) ∧ Nn w' a l c V ∧ Below x.heap.size x w') (WR : ∀ x a l c a' l' c', Below w.heap.size w x → Nn x a l c V → Nn x a' l' c' 1 → Calls Tryz.prog 33 #[.bool g, .agg #[.slice a l c], .agg #[.slice a' l' c']] x fun e w' => e = .returned (.tuple #[.agg #[.string u, .string v], .int .i64 er]) ∧ Below x.heap.size x w') :
    Calls Tryz.prog 18 #[.bool g, .agg #[.slice a l c], .int .i64 E] w fun e w' => e = .returned (.tuple #[.agg #[.string u, .string v], .int .i64 er]) ∧ Below w.heap.size w w' := by
  have KN := (Bx.new w (.slice a l c) 56).alloc (.cells #[.string ⟨#[]⟩, .string ⟨#[]⟩] 25)
  have KR := Blk.new (w.alloc (.cells #[.slice a l c] 56)) #[.string ⟨#[]⟩, .string ⟨#[]⟩] 25
  have pr : Below w.heap.size w ((w.alloc (.cells #[.slice a l c] 56)).alloc (.cells #[.string ⟨#[]⟩, .string ⟨#[]⟩] 25)) := ((Below.refl _ _).alloc (Nat.le_refl _) _).alloc (by simp) _
  simp only [World.size_alloc] at KR
  go_enter Tryz.func18, Tryz.ntmps18
  go_wp2_with (first
    | (go_at_call 32; (have mk := o2); (refine (IZ _ p1).mono ?_); (rintro e w2 ⟨rfl, b2⟩); (have p2 := bel' p1 b2); (have K2 := K1.below b2); (have KN2 := KN1.below b2); (have KR2 := KR1.below b2 KR1.lt); (have o3 := o2.grow b2); (have s2 := K2.1); (have s3 := KN2.1))
    | (go_at_call 19; (refine (OF _).mono ?_); (rintro e w1 ⟨a1, l1, c1, rfl, o1, b1⟩); (have al1 := (Below.refl w1.heap.size w1).alloc (Nat.le_refl _) (.cells #[.slice a1 l1 c1] 56)); (have bb1 := bel' b1 al1); (have p1 := bel' pr bb1); (have K1 := Bx.new w1 (.slice a1 l1 c1) 56); (have o2 := o1.grow al1); (have KN1 := KN.below bb1); (have KR1 := KR.below bb1 KR.lt); (have s0 := K1.1); (have s1 := KN1.1))
    | fail)
  have hX : w.heap.size + 1 < w1.heap.size := Nat.lt_of_lt_of_le KR.lt b1.size
  generalize w1.heap.size = Z at *
  have ne1 : Z ≠ w.heap.size + 1 := by omega
  have ne2 : w.heap.size + 1 ≠ Z := by omega
  have ne3 : w.heap.size ≠ w.heap.size + 1 := by omega
  have ne4 : w.heap.size + 1 ≠ w.heap.size := by omega
  go_region_held3 (fun x => x.cell? ⟨w.heap.size, 0, none⟩ = some (.slice a l c) ∧ x.cell? ⟨Z, 0, none⟩ = some (.slice a1 l1 c1)) (go_keep) (first
    | (go_at_call 33; refine (WR _ _ _ _ _ _ _ (bel' p2 d4) n4 (o3.grow d4)).mono ?_; rintro e w9 ⟨rfl, b9⟩; have d9 := bel' d4 b9; have s90 := (KN2.below d9).1; have s91 := (K2.below d9).1; have KR9 := KR2.below d9 KR2.lt; have z0 := KR9.at 0; have z1 := KR9.at 1; have y0 := KR9.free 0; have y1 := KR9.free 1; simp at z0 z1)
    | (go_at_call 34; refine (SL _ (hA.grow p2.drew)).mono ?_; rintro e w4 ⟨a4, l4, c4, rfl, n4, b4⟩; have d4 := undrew b4; have s40 := (KN2.below d4).1; have s41 := (K2.below d4).1)
    | fail)
  go_wp2_with fail
  have p9 := bel' p2 d9
  have KE := bput (bput KR9 0 (.string u)) 1 (.string v)
  have bE := (p9.setCell (p := ⟨w.heap.size + 1, 0, none⟩) (show w.heap.size ≤ w.heap.size + 1 by omega) (.string u)).setCell (p := ⟨w.heap.size + 1, 1, none⟩) (show w.heap.size ≤ w.heap.size + 1 by omega) (.string v)
  have q0 := KE.at 0
  have q1 := KE.at 1
  simp at q0 q1
  exact bodyPost_ret (v := .tuple #[.agg #[.string u, .string v], .int .i64 er]) (by simp [results, Tryz.results18, go_sem, q0, q1]) rfl ⟨rfl, bE⟩
set_option maxHeartbeats 3200000 in
set_option maxRecDepth 100000 in
theorem WS_dn (g : Bool) (a : Option Addr) (l c : Nat) (M V D E T cz cm cs : Int) (u v : ByteArray) (er : Int) (w : World) (hE : ¬ E ≥ 0) (hT : IntKind.i64.wrap (-E) = T) (hm : min cz T = cm) (hs : IntKind.i64.wrap (T - cm) = cs) (hA : Nn w a l c M) (OF : ∀ x, Calls Tryz.prog 19 #[.int .u64 1] x fun e w' => ∃ a l c, e = .returned (.agg #[.slice a l c]) ∧ Nn w' a l c 1 ∧ Below x.heap.size x w') (IZ : ∀ x, Below w.heap.size w x → Calls Tryz.prog 32 #[.agg #[.slice a l c]] x fun e w' => e = .returned (.bool false) ∧ Below x.heap.size x w')
    (TZ : ∀ x, Below w.heap.size w x → Calls Tryz.prog 35 #[.agg #[.slice a l c]] x fun e w' => e = .returned (.int .i64 cz) ∧ Below x.heap.size x w')
    (SR : ∀ x, Nn x a l c M → Calls Tryz.prog 36 #[.agg #[.slice a l c], .int .i64 cm] x fun e w' => ∃ a l c, e = .returned (.agg #[.slice a l c]) ∧ Nn w' a l c V ∧ Below x.heap.size x w')
    (SL : ∀ x a l c, Nn x a l c 1 → Calls Tryz.prog 34 #[.agg #[.slice a l c], .int .i64 cs] x fun e w' => ∃ a l c, e = .returned (.agg #[.slice a l c]) ∧ Nn w' a l c D ∧ Below x.heap.size x w') (WR : ∀ x a l c a' l' c', Below w.heap.size w x → Nn x a l c V → Nn x a' l' c' D → Calls Tryz.prog 33 #[.bool g, .agg #[.slice a l c], .agg #[.slice a' l' c']] x fun e w' => e = .returned (.tuple #[.agg #[.string u, .string v], .int .i64 er]) ∧ Below x.heap.size x w') :
    Calls Tryz.prog 18 #[.bool g, .agg #[.slice a l c], .int .i64 E] w fun e w' => e = .returned (.tuple #[.agg #[.string u, .string v], .int .i64 er]) ∧ Below w.heap.size w w' := by
  have KN := (Bx.new w (.slice a l c) 56).alloc (.cells #[.string ⟨#[]⟩, .string ⟨#[]⟩] 25)
  have KR := Blk.new (w.alloc (.cells #[.slice a l c] 56)) #[.string ⟨#[]⟩, .string ⟨#[]⟩] 25
  have pr : Below w.heap.size w ((w.alloc (.cells #[.slice a l c] 56)).alloc (.cells #[.string ⟨#[]⟩, .string ⟨#[]⟩] 25)) := ((Below.refl _ _).alloc (Nat.le_refl _) _).alloc (by simp) _
  simp only [World.size_alloc] at KR
  go_enter Tryz.func18, Tryz.ntmps18
  go_wp2_with (first
    | (go_at_call 35; (have mk := o3); (refine (TZ _ p2).mono ?_); (rintro e w3 ⟨rfl, b3⟩); (have p3 := bel' p2 b3); (have K3 := K2.below b3); (have KN3 := KN2.below b3); (have KR3 := KR2.below b3 KR2.lt); (have o4 := o3.grow b3); (have s4 := K3.1); (have s5 := KN3.1))
    | (go_at_call 32; (have mk := o2); (refine (IZ _ p1).mono ?_); (rintro e w2 ⟨rfl, b2⟩); (have p2 := bel' p1 b2); (have K2 := K1.below b2); (have KN2 := KN1.below b2); (have KR2 := KR1.below b2 KR1.lt); (have o3 := o2.grow b2); (have s2 := K2.1); (have s3 := KN2.1))
    | (go_at_call 19; (refine (OF _).mono ?_); (rintro e w1 ⟨a1, l1, c1, rfl, o1, b1⟩); (have al1 := (Below.refl w1.heap.size w1).alloc (Nat.le_refl _) (.cells #[.slice a1 l1 c1] 56)); (have bb1 := bel' b1 al1); (have p1 := bel' pr bb1); (have K1 := Bx.new w1 (.slice a1 l1 c1) 56); (have o2 := o1.grow al1); (have KN1 := KN.below bb1); (have KR1 := KR.below bb1 KR.lt); (have s0 := K1.1); (have s1 := KN1.1))
    | fail)
  clear KN2 K2 KR2 o3
  have hX : w.heap.size + 1 < w1.heap.size := Nat.lt_of_lt_of_le KR.lt b1.size
  generalize w1.heap.size = Z at *
  have ne1 : Z ≠ w.heap.size + 1 := by omega
  have ne2 : w.heap.size + 1 ≠ Z := by omega
  have ne3 : w.heap.size ≠ w.heap.size + 1 := by omega
  have ne4 : w.heap.size + 1 ≠ w.heap.size := by omega
  go_region_held3 (fun x => x.cell? ⟨w.heap.size, 0, none⟩ = some (.slice a l c) ∧ x.cell? ⟨Z, 0, none⟩ = some (.slice a1 l1 c1)) (go_keep) (first
    | (go_at_call 33; refine (WR _ _ _ _ _ _ _ (bel' p3 d5) (n4.grow b5) n5).mono ?_; rintro e w9 ⟨rfl, b9⟩; have d9 := bel' d5 b9; have s90 := (KN3.below d9).1; have s91 := (K3.below d9).1; have KR9 := KR3.below d9 KR3.lt; have z0 := KR9.at 0; have z1 := KR9.at 1; have y0 := KR9.free 0; have y1 := KR9.free 1; simp at z0 z1)
    | (go_at_call 34; refine (SL _ _ _ _ (o4.grow d4)).mono ?_; rintro e w5 ⟨a5, l5, c5, rfl, n5, b5⟩; have d5 := bel' d4 b5; have s50 := (KN3.below d5).1; have s51 := (K3.below d5).1)
    | (go_at_call 36; refine (SR _ (hA.grow p3.drew)).mono ?_; rintro e w4 ⟨a4, l4, c4, rfl, n4, b4⟩; have d4 := undrew b4; have s40 := (KN3.below d4).1; have s41 := (K3.below d4).1)
    | fail)
  go_wp2_with fail
  have p9 := bel' p3 d9
  have KE := bput (bput KR9 0 (.string u)) 1 (.string v)
  have bE := (p9.setCell (p := ⟨w.heap.size + 1, 0, none⟩) (show w.heap.size ≤ w.heap.size + 1 by omega) (.string u)).setCell (p := ⟨w.heap.size + 1, 1, none⟩) (show w.heap.size ≤ w.heap.size + 1 by omega) (.string v)
  have q0 := KE.at 0
  have q1 := KE.at 1
  simp at q0 q1
  exact bodyPost_ret (v := .tuple #[.agg #[.string u, .string v], .int .i64 er]) (by simp [results, Tryz.results18, go_sem, q0, q1]) rfl ⟨rfl, bE⟩
end Go.Proofs.YtiobnojcmeeikaaGreatDoor.Mo

namespace Go.Proofs.YtiobnojcmeeikaaGreatDoor.Mo
open Go.RowKit Tn

/-- ShiftLeft of any number, by any places. -/
theorem Shl_far {x : World} {a : Option Addr} {l c : Nat} {A : Int} (h : Nn x a l c A) (A0 : 0 < A) (hA : A < pw 1000) (T : Nat) (hT : T ≤ 64000) :
    Calls Tryz.prog 34 #[.agg #[.slice a l c], .int .i64 (T : Int)] x fun e w' => ∃ a l c, e = .returned (.agg #[.slice a l c]) ∧ Nn w' a l c (A * 2 ^ T) ∧ Below x.heap.size x w' := by
  obtain ⟨xs, r, n, v⟩ := h
  have lx : xs.length ≤ 1000 := len_of r.1 n (by rw [v]; exact hA)
  have ne : 0 < xs.length := by
    rcases List.eq_nil_or_concat xs with rfl | ⟨_, _, rfl⟩
    · simp [val] at v; omega
    · simp
  have q1 : Int.tdiv (T : Int) 64 = ((T / 64 : Nat) : Int) := by rw [Int.tdiv_eq_ediv_of_nonneg (by omega)]; omega
  have q2 : Int.tmod (T : Int) 64 = ((T % 64 : Nat) : Int) := by rw [Int.tmod_eq_emod_of_nonneg (by omega)]; omega
  refine (shl_far (T : Int) ((T / 64 : Nat) : Int) ((T % 64 : Nat) : Int) (T / 64) (T % 64) (.slice a l c) xs x r ne (by omega) (by omega) (by omega) q1 q2 (IntWalk.i64_in _ (by omega)) (IntWalk.i64_in _ (by omega)) (IntWalk.i64_in _ (by omega)) ⟨rfl, rfl⟩).mono ?_
  rintro e w' ⟨u, zs, rfl, z1, z2, z3, b⟩
  obtain ⟨p, i, j, rfl⟩ := z1.shape
  refine ⟨p, i, j, rfl, ⟨zs, z1, z2, ?_⟩, b⟩
  rw [z3, v, Wt.pw_two, Int.mul_assoc, ← Int.pow_add, show T % 64 + 64 * (T / 64) = T by omega]
/-- The number of these parts. -/
def xr (g : Bool) (m e : Int) : Rat := if 0 ≤ e then mkRat (L.sgI g (m * 2 ^ e.toNat)) 1 else mkRat (L.sgI g m) (2 ^ (-e).toNat)
theorem wrA_parts {q : Rat} {g : Bool} {N D : Nat} (h1 : decide (q.num < 0) = g) (h2 : q.num.natAbs = N) (h3 : q.den = D) : wrA q = (.agg #[.string (wA g N D).1.1, .string (wA g N D).1.2], (wA g N D).2) := by
  subst h1 h2 h3
  rfl
theorem sgI_lt (g : Bool) {N : Int} (h : 0 < N) : decide (L.sgI g N < 0) = g := by
  cases g
  · exact decide_eq_false (by show ¬ N < 0; omega)
  · exact decide_eq_true (by show -N < 0; omega)
theorem sgI_nat (g : Bool) (N : Nat) : (L.sgI g (N : Int)).natAbs = N := by cases g <;> simp [L.sgI]
theorem xr_zero (g : Bool) (e : Int) : wrA (xr g 0 e) = (.agg #[.string (wA false 0 1).1.1, .string (wA false 0 1).1.2], (wA false 0 1).2) := by
  have z : xr g 0 e = 0 := by
    unfold xr
    have s0 : L.sgI g 0 = 0 := by cases g <;> rfl
    split
    · rw [Int.zero_mul, s0, Rat.zero_mkRat]
    · rw [s0, Rat.zero_mkRat]
  rw [z]
  exact wrA_parts rfl rfl rfl
theorem xr_up (g : Bool) (m T : Nat) (m0 : 0 < m) : wrA (xr g m (T : Int)) = (.agg #[.string (wA g (m * 2 ^ T) 1).1.1, .string (wA g (m * 2 ^ T) 1).1.2], (wA g (m * 2 ^ T) 1).2) := by
  have M0 : 0 < m * 2 ^ T := Nat.mul_pos m0 (Nat.pow_pos (by decide))
  have e : xr g m (T : Int) = ((L.sgI g ((m * 2 ^ T : Nat) : Int) : Int) : Rat) := by
    unfold xr
    rw [if_pos (by omega), Int.toNat_natCast, Rat.mkRat_one]
    congr 2
  obtain ⟨M, hM⟩ : ∃ M, m * 2 ^ T = M := ⟨_, rfl⟩
  rw [hM] at M0 e ⊢
  rw [e]
  exact wrA_parts (sgI_lt g (by omega)) (sgI_nat g M) rfl
theorem xr_dn (g : Bool) (m T c N k : Nat) (m0 : 0 < m) (T0 : 0 < T) (hm : m = 2 ^ c * N) (hc : c + k = T) (co : Nat.Coprime N (2 ^ k)) : wrA (xr g m (-(T : Int))) = (.agg #[.string (wA g N (2 ^ k)).1.1, .string (wA g N (2 ^ k)).1.2], (wA g N (2 ^ k)).2) := by
  have D0 : 0 < 2 ^ k := Nat.pow_pos (by decide)
  have N0 : 0 < N := Nat.pos_of_ne_zero (fun z => by rw [z, Nat.mul_zero] at hm; omega)
  obtain ⟨q, hq⟩ : ∃ q : Rat, q = ⟨L.sgI g (N : Int), 2 ^ k, by omega, by rw [sgI_nat]; exact co⟩ := ⟨_, rfl⟩
  have e : xr g m (-(T : Int)) = q := by
    unfold xr
    rw [if_neg (by omega), show (- -(T : Int)).toNat = T by omega, ← hc, Nat.pow_add]
    have s : L.sgI g (m : Int) = ((2 ^ c : Nat) : Int) * L.sgI g (N : Int) := by
      rw [hm]
      cases g
      · show ((2 ^ c * N : Nat) : Int) = ((2 ^ c : Nat) : Int) * (N : Int)
        push_cast; rfl
      · show -((2 ^ c * N : Nat) : Int) = ((2 ^ c : Nat) : Int) * -(N : Int)
        rw [Int.mul_neg]; push_cast; rfl
    rw [s, Rat.mkRat_mul_left (Nat.ne_of_gt (Nat.pow_pos (by decide)))]
    have := Rat.mkRat_self q
    rw [hq] at this ⊢
    exact this
  rw [e]
  exact wrA_parts (by rw [hq]; exact sgI_lt g (by omega)) (by rw [hq]; exact sgI_nat g N) (by rw [hq])
theorem odd_pow {N : Nat} (h : N % 2 = 1) : ∀ k : Nat, Nat.Coprime N (2 ^ k)
  | 0 => by simp
  | k + 1 => by
    rw [Nat.pow_succ]
    refine Nat.Coprime.mul_right (odd_pow h k) ?_
    show Nat.gcd N 2 = 1
    rw [Nat.gcd_comm, Nat.gcd_rec, h]
    rfl
theorem pw_19 {m T : Nat} (h : m < 18446744073709551616) (hT : T ≤ 1100) : ((m * 2 ^ T : Nat) : Int) < pw 19 := by
  obtain ⟨E, hE⟩ : ∃ E : Nat, E = 64 * 19 := ⟨_, rfl⟩
  rw [Wt.pw_two, ← hE]
  have h0 : m < 2 ^ 64 := h
  obtain ⟨K, hK⟩ : ∃ K : Nat, K = 1100 := ⟨_, rfl⟩
  have h1 : (2 : Nat) ^ T ≤ 2 ^ K := Nat.pow_le_pow_right (by decide) (by omega)
  have h2 : m * 2 ^ T < 2 ^ 64 * 2 ^ K := Nat.lt_of_le_of_lt (Nat.mul_le_mul_left m h1) (Nat.mul_lt_mul_of_pos_right h0 (Nat.pow_pos (by decide)))
  have h3 : (2 : Nat) ^ 64 * 2 ^ K ≤ 2 ^ E := by rw [← Nat.pow_add]; exact Nat.pow_le_pow_right (by decide) (by omega)
  exact Wt.lt_cast (Nat.lt_of_lt_of_le h2 h3)
theorem two_19 {k : Nat} (h : k ≤ 1100) : ((2 ^ k : Nat) : Int) < pw 19 := by
  have := pw_19 (m := 1) (T := k) (by decide) h
  rwa [Nat.one_mul] at this
set_option maxRecDepth 100000 in
/-- WriteScaled: what is told of the number of these parts. -/
theorem WS_xr (g : Bool) (a : Option Addr) (l c m : Nat) (e : Int) (u v : ByteArray) (er : Int) (w : World) (hA : Nn w a l c (m : Int)) (m1 : m < 18446744073709551616) (e0 : -1100 ≤ e) (e1 : e ≤ 1100) (G : Gw w) (Z : Gz w) (hw : wrA (xr g m e) = (.agg #[.string u, .string v], er)) :
    Calls Tryz.prog 18 #[.bool g, .agg #[.slice a l c], .int .i64 e] w fun r w' => r = .returned (.tuple #[.agg #[.string u, .string v], .int .i64 er]) ∧ Below w.heap.size w w' := by
  have OF : ∀ x, Calls Tryz.prog 19 #[.int .u64 1] x fun e w' => ∃ a l c, e = .returned (.agg #[.slice a l c]) ∧ Nn w' a l c 1 ∧ Below x.heap.size x w' := fun x => by
    refine (Of_any 1 x (by decide) (by decide)).mono ?_
    rintro e w1 ⟨r, zs, rfl, q1, n1, v1, b1⟩
    obtain ⟨a1, l1, c1, rfl⟩ := q1.shape
    exact ⟨a1, l1, c1, rfl, ⟨zs, q1, n1, v1⟩, b1⟩
  have IZ := fun (x : World) (b : Below w.heap.size w x) => IsZero_n (hA.grow b)
  have p19 : pw 19 ≤ pw 1000000 := pw_mono (by decide)
  have one : (1 : Int) < pw 1000 := by
    have := pw_mono (show 1 ≤ 1000 by decide)
    rw [pw_1] at this; omega
  have WRT : ∀ (g : Bool) (N D : Nat), ((N : Int) < pw 19) → ((D : Int) < pw 19) → wrA (xr g m e) = wrA (xr g m e) → (.agg #[.string (wA g N D).1.1, .string (wA g N D).1.2], (wA g N D).2) = ((.agg #[.string u, .string v], er) : Value × Int) → ∀ x a l c a' l' c', Below w.heap.size w x → Nn x a l c (N : Int) → Nn x a' l' c' (D : Int) → Calls Tryz.prog 33 #[.bool g, .agg #[.slice a l c], .agg #[.slice a' l' c']] x fun e w' => e = .returned (.tuple #[.agg #[.string u, .string v], .int .i64 er]) ∧ Below x.heap.size x w' := by
    intro g N D hN hD _ he x a l c a' l' c' b h1 h2
    have := Write_any g a a' l c l' c' N D x h1 h2 (by omega) (by omega) (G.grow b)
    simp only [Prod.mk.injEq, Value.agg.injEq, Array.mk.injEq, List.cons.injEq, Value.string.injEq, and_true] at he
    rw [he.1.1, he.1.2, he.2] at this
    exact this
  by_cases z : m = 0
  · subst z
    have h0 : (0 : Int) < pw 19 := pw_pos 19
    have h1 : (1 : Int) < pw 19 := two_19 (k := 0) (by decide)
    have hx := xr_zero g e
    rw [show ((0 : Nat) : Int) = 0 from rfl] at hw
    rw [hw] at hx
    refine WS_nought g a l c e u v er w hA OF (fun x b => ?_) (WRT false 0 1 h0 h1 rfl hx.symm)
    have := IZ x b
    rwa [decide_eq_true (by rfl)] at this
  · have m0 : 0 < m := Nat.pos_of_ne_zero z
    have IZ' : ∀ x, Below w.heap.size w x → Calls Tryz.prog 32 #[.agg #[.slice a l c]] x fun e w' => e = .returned (.bool false) ∧ Below x.heap.size x w' := fun x b => by
      have := IZ x b
      rwa [decide_eq_false (by omega)] at this
    have mp : (m : Int) < pw 1000 := by
      have := pw_mono (show 1 ≤ 1000 by decide)
      rw [pw_1] at this; omega
    by_cases up : 0 ≤ e
    · obtain ⟨T, rfl⟩ : ∃ T : Nat, e = (T : Int) := ⟨e.toNat, by omega⟩
      have hx := xr_up g m T m0
      rw [hw] at hx
      have MV : (m : Int) * 2 ^ T = ((m * 2 ^ T : Nat) : Int) := by push_cast; rfl
      refine WS_up g a l c (m : Int) ((m * 2 ^ T : Nat) : Int) (T : Int) u v er w (by omega) hA OF IZ' (fun x h => ?_) (WRT g (m * 2 ^ T) 1 (pw_19 m1 (by omega)) (two_19 (k := 0) (by decide)) rfl hx.symm)
      have := Shl_far h (by omega) mp T (by omega)
      rwa [MV] at this
    · obtain ⟨T, rfl⟩ : ∃ T : Nat, e = -(T : Int) := ⟨(-e).toNat, by omega⟩
      have T0 : 0 < T := by omega
      obtain ⟨j, hj, c64⟩ := Go.Lib.ctzFrom_spec 64 m m0 m1
      have ec : Go.Lib.ctz 64 m = Go.Lib.ctzFrom 64 m := by unfold Go.Lib.ctz; rw [if_neg (by omega)]
      obtain ⟨cz, hcz⟩ : ∃ cz, Go.Lib.ctzFrom 64 m = cz := ⟨_, rfl⟩
      rw [hcz] at hj c64 ec
      have TZ : ∀ x, Below w.heap.size w x → Calls Tryz.prog 35 #[.agg #[.slice a l c]] x fun e w' => e = .returned (.int .i64 (cz : Int)) ∧ Below x.heap.size x w' := fun x b => by
        have := tz_word a l c m x (hA.grow b) m1 m0 (Z.grow b)
        rwa [ec] at this
      obtain ⟨N, k, cm, hmin, hck, hmN, co, hcm⟩ : ∃ N k cm : Nat, min (cz : Int) (T : Int) = (cm : Int) ∧ cm + k = T ∧ m = 2 ^ cm * N ∧ Nat.Coprime N (2 ^ k) ∧ cm ≤ cz := by
        by_cases le : cz ≤ T
        · exact ⟨2 * j + 1, T - cz, cz, by omega, by omega, hj, odd_pow (by omega) _, Nat.le_refl _⟩
        · refine ⟨2 ^ (cz - T) * (2 * j + 1), 0, T, by omega, by omega, ?_, by simp, by omega⟩
          rw [← Nat.mul_assoc, ← Nat.pow_add, show T + (cz - T) = cz by omega]
          exact hj
      have hx := xr_dn g m T cm N k m0 T0 hmN hck co
      rw [hw] at hx
      have N0 : 0 < N := Nat.pos_of_ne_zero (fun z => by rw [z, Nat.mul_zero] at hmN; omega)
      have Nm : N ≤ m := by rw [hmN]; exact Nat.le_mul_of_pos_left _ (Nat.pow_pos (by decide))
      have dv : m / 2 ^ cm = N := by rw [hmN]; exact Nat.mul_div_cancel_left _ (Nat.pow_pos (by decide))
      have hb : cm < nb m := by
        obtain ⟨b1, _⟩ := Wt.nb_spec m
        have : 2 ^ cm ≤ m := by rw [hmN]; exact Nat.le_mul_of_pos_right _ N0
        exact (Nat.pow_lt_pow_iff_right (show 1 < 2 by decide)).1 (Nat.lt_of_le_of_lt this b1)
      refine WS_dn g a l c (m : Int) (N : Int) ((2 ^ k : Nat) : Int) (-(T : Int)) (T : Int) (cz : Int) (cm : Int) (k : Int) u v er w (by omega) (by rw [Int.neg_neg]; exact IntWalk.i64_in _ (by omega)) hmin (by rw [show (T : Int) - (cm : Int) = (k : Int) by omega]; exact IntWalk.i64_in _ (by omega)) hA OF IZ' TZ (fun x h => ?_) (fun x a l c h => ?_) (WRT g N (2 ^ k) (by have := pw_19 (T := 0) m1 (by decide); rw [Nat.pow_zero, Nat.mul_one] at this; omega) (two_19 (by omega)) rfl hx.symm)
      · have := shr_low a l c m (cm : Int) cm x h m1 m0 (by omega) (by omega) (by rw [Int.tdiv_eq_ediv_of_nonneg (by omega)]; omega) (by rw [Int.tmod_eq_emod_of_nonneg (by omega)]; omega)
        rwa [dv] at this
      · have := Shl_far h (by decide) one k (by omega)
        rwa [Int.one_mul, show (2 : Int) ^ k = ((2 ^ k : Nat) : Int) by push_cast; rfl] at this
end Go.Proofs.YtiobnojcmeeikaaGreatDoor.Mo
