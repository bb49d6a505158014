import Derived.Test.YtfalncbcomlelaaGreatDoorGcd2
namespace Go.Proofs.YtfalncbcomlelaaGreatDoor
open Go.RowKit Tn

/-- Five cells of one block, stored one behind the other. -/
def put5 (W : World) (n : Nat) (v0 v1 v2 v3 v4 : Value) : World := ((((W.setCell ⟨n, 0, none⟩ v0).setCell ⟨n, 1, none⟩ v1).setCell ⟨n, 2, none⟩ v2).setCell ⟨n, 3, none⟩ v3).setCell ⟨n, 4, none⟩ v4
theorem put5_cells {W : World} {n : Nat} (v0 v1 v2 v3 v4 : Value) (h : ∀ i, i < 5 → ∃ v, W.cell? ⟨n, i, none⟩ = some v) :
    (put5 W n v0 v1 v2 v3 v4).cell? ⟨n, 0, none⟩ = some v0 ∧ (put5 W n v0 v1 v2 v3 v4).cell? ⟨n, 1, none⟩ = some v1 ∧ (put5 W n v0 v1 v2 v3 v4).cell? ⟨n, 2, none⟩ = some v2 ∧ (put5 W n v0 v1 v2 v3 v4).cell? ⟨n, 3, none⟩ = some v3 ∧ (put5 W n v0 v1 v2 v3 v4).cell? ⟨n, 4, none⟩ = some v4 := by
  obtain ⟨a0, h0⟩ := h 0 (by omega)
  obtain ⟨a1, h1⟩ := h 1 (by omega)
  obtain ⟨a2, h2⟩ := h 2 (by omega)
  obtain ⟨a3, h3⟩ := h 3 (by omega)
  obtain ⟨a4, h4⟩ := h 4 (by omega)
  unfold put5
  refine ⟨?_, ?_, ?_, ?_, ?_⟩
  · rw [World.cell?_setCell_other _ _ _ _ (by simp), World.cell?_setCell_other _ _ _ _ (by simp), World.cell?_setCell_other _ _ _ _ (by simp), World.cell?_setCell_other _ _ _ _ (by simp), World.cell?_setCell_same _ _ _ h0]
  · rw [World.cell?_setCell_other _ _ _ _ (by simp), World.cell?_setCell_other _ _ _ _ (by simp), World.cell?_setCell_other _ _ _ _ (by simp)]
    exact World.cell?_setCell_same _ _ _ (by rw [World.cell?_setCell_other _ _ _ _ (by simp)]; exact h1)
  · rw [World.cell?_setCell_other _ _ _ _ (by simp), World.cell?_setCell_other _ _ _ _ (by simp)]
    exact World.cell?_setCell_same _ _ _ (by rw [World.cell?_setCell_other _ _ _ _ (by simp), World.cell?_setCell_other _ _ _ _ (by simp)]; exact h2)
  · rw [World.cell?_setCell_other _ _ _ _ (by simp)]
    exact World.cell?_setCell_same _ _ _ (by rw [World.cell?_setCell_other _ _ _ _ (by simp), World.cell?_setCell_other _ _ _ _ (by simp), World.cell?_setCell_other _ _ _ _ (by simp)]; exact h3)
  · exact World.cell?_setCell_same _ _ _ (by rw [World.cell?_setCell_other _ _ _ _ (by simp), World.cell?_setCell_other _ _ _ _ (by simp), World.cell?_setCell_other _ _ _ _ (by simp), World.cell?_setCell_other _ _ _ _ (by simp)]; exact h4)
theorem put5_below {B : Nat} {w W : World} {n : Nat} (v0 v1 v2 v3 v4 : Value) (h : Below B w W) (hn : B ≤ n) : Below B w (put5 W n v0 v1 v2 v3 v4) :=
  ((((h.setCell (p := ⟨n, 0, none⟩) hn v0).setCell (p := ⟨n, 1, none⟩) hn v1).setCell (p := ⟨n, 2, none⟩) hn v2).setCell (p := ⟨n, 3, none⟩) hn v3).setCell (p := ⟨n, 4, none⟩) hn v4
theorem setCell_drewN (W : World) (k : Nat) (a : Addr) (v : Value) : (W.drewN k).setCell a v = (W.setCell a v).drewN k := rfl
theorem put5_alloc (A : World) (a0 a1 a2 a3 a4 v0 v1 v2 v3 v4 : Value) (t : TypeId) (k : Nat) : put5 ((A.alloc (.cells #[a0, a1, a2, a3, a4] t)).drewN k) A.heap.size v0 v1 v2 v3 v4 = (A.alloc (.cells #[v0, v1, v2, v3, v4] t)).drewN k := by
  unfold put5
  rw [setCell_drewN, setCell_drewN, setCell_drewN, setCell_drewN, setCell_drewN, World.setCell_alloc_at _ _ _ _ _ rfl, World.setCell_alloc_at _ _ _ _ _ rfl, World.setCell_alloc_at _ _ _ _ _ rfl, World.setCell_alloc_at _ _ _ _ _ rfl, World.setCell_alloc_at _ _ _ _ _ rfl]
  simp
theorem below_two (w : World) (o1 o2 : Obj) (k : Nat) : Below w.heap.size w (((w.alloc o1).alloc o2).drewN k) := below_drewN (((Below.refl _ _).alloc (Nat.le_refl _) _).alloc (by simp) _) _

/-- What foresee leaves. -/
def Fore (a b : Int) (w : World) (e : Ending) (w' : World) : Prop := ∃ x0 y0 x1 y1 t, e = .returned (.agg #[.int .u64 x0, .int .u64 y0, .int .u64 x1, .int .u64 y1, .bool t]) ∧ Seen a b x0 y0 x1 y1 t ∧ Below w.heap.size w w'
theorem Fore.mk {a b : Int} {w : World} {e : Ending} {w' : World} {x0 y0 x1 y1 : Int} {t : Bool} (h : e = .returned (.agg #[.int .u64 x0, .int .u64 y0, .int .u64 x1, .int .u64 y1, .bool t])) (h1 : Seen a b x0 y0 x1 y1 t) (h2 : Below w.heap.size w w') : Fore a b w e w' := ⟨x0, y0, x1, y1, t, h, h1, h2⟩
theorem five_there (w : World) (a0 a1 a2 a3 a4 : Value) (o : Obj) (t : TypeId) (k : Nat) : ∀ i, i < 5 → ∃ v, (((w.alloc (.cells #[a0, a1, a2, a3, a4] t)).alloc o).drewN k).cell? ⟨w.heap.size, i, none⟩ = some v := by
  intro i hi
  have e : (((w.alloc (.cells #[a0, a1, a2, a3, a4] t)).alloc o).drewN k).cell? ⟨w.heap.size, i, none⟩ = (#[a0, a1, a2, a3, a4] : Array Value)[i]? := by
    show ((w.alloc (.cells #[a0, a1, a2, a3, a4] t)).alloc o).cell? ⟨w.heap.size, i, none⟩ = _
    rw [World.cell?_alloc_past _ _ _ (by simp), World.cell?_alloc_at _ _ _ _ rfl]
  rw [e]
  have : i < (#[a0, a1, a2, a3, a4] : Array Value).size := by simpa using hi
  exact ⟨_, Array.getElem?_eq_getElem this⟩

set_option maxRecDepth 100000 in
set_option maxHeartbeats 1600000 in
theorem foresee_core (xb xo yb yo c1 c2 m ly s : Nat) (X Y : List Int) (ah bh a b H al bl : Int) (w : World) (hly : ly = m + 2 ∨ ly = m + 1) (hL : m ≤ 549755813888) (hs : (s : Int) = 64 - (Lib.bitLen (nth X (m + 1)).toNat : Int)) (s1 : s ≤ 63)
    (cx1 : w.cell? ⟨xb, xo + (m + 1), none⟩ = some (.int .u64 (nth X (m + 1)))) (cx0 : w.cell? ⟨xb, xo + m, none⟩ = some (.int .u64 (nth X m))) (cy0 : w.cell? ⟨yb, yo + m, none⟩ = some (.int .u64 (nth Y m))) (cy1 : ly = m + 2 → w.cell? ⟨yb, yo + (m + 1), none⟩ = some (.int .u64 (nth Y (m + 1))))
    (bx1 : 0 ≤ nth X (m + 1) ∧ nth X (m + 1) < 18446744073709551616) (r1 : IntKind.u64.wrap (nth X (m + 1) * 2 ^ s) = nth X (m + 1) * 2 ^ s) (r2 : bits .or .u64 (nth X (m + 1) * 2 ^ s) (nth X m / 2 ^ (64 - s)) = ah)
    (r3 : ly = m + 1 → nth Y m / 2 ^ (64 - s) = bh) (r4 : ly = m + 2 → IntKind.u64.wrap (nth Y (m + 1) * 2 ^ s) = nth Y (m + 1) * 2 ^ s ∧ bits .or .u64 (nth Y m / 2 ^ (64 - s)) (nth Y (m + 1) * 2 ^ s) = bh)
    (ha : a = ah * H + al) (hb : b = bh * H + bl) (hH : 0 < H) (al0 : 0 ≤ al) (al1 : al < H) (bl0 : 0 ≤ bl) (bl1 : bl < H) (hba : b ≤ a) (hb0 : 0 ≤ b) (hbh : 0 ≤ bh) (hle : bh ≤ ah) (hah : ah < 18446744073709551616) :
    Calls Tryz.prog 98 #[.slice (some ⟨xb, xo, none⟩) (m + 2) c1, .slice (some ⟨yb, yo, none⟩) ly c2] w fun e w' => Fore a b w e w' := by
  have lx := lt_of_cell cx0
  have ll := lt_of_cell cy0
  have HS : Hid ((64 - (Lib.bitLen (nth X (m + 1)).toNat : Int)) = (s : Int)) := hs.symm
  have HB : Hid _ := And.intro ha hb
  have w1 : IntKind.i64.wrap ((m : Int) + 2 - 1) = (m : Int) + 1 := by rw [IntWalk.i64_in _ (by omega)]; omega
  have w2 : IntKind.i64.wrap ((m : Int) + 2 - 2) = (m : Int) := by rw [IntWalk.i64_in _ (by omega)]; omega
  have w3 : IntKind.i64.wrap (64 - (s : Int)) = 64 - (s : Int) := IntWalk.i64_in _ (by omega)
  have l1 : ¬ ly < m + 1 := by omega
  have R34 : Hid ((ly = m + 1 → nth Y m / 2 ^ (64 - s) = bh) ∧ (ly = m + 2 → IntKind.u64.wrap (nth Y (m + 1) * 2 ^ s) = nth Y (m + 1) * 2 ^ s ∧ bits .or .u64 (nth Y m / 2 ^ (64 - s)) (nth Y (m + 1) * 2 ^ s) = bh)) := ⟨r3, r4⟩
  have CY : Hid (ly = m + 2 → w.cell? ⟨yb, yo + (m + 1), none⟩ = some (.int .u64 (nth Y (m + 1)))) := cy1
  have HLY : Hid (ly = m + 2 ∨ ly = m + 1) := hly
  have l2 : m + 1 ≤ ly := by omega
  have l3 : ly ≤ m + 2 := by omega
  clear hs ha hb r3 r4 cy1 hly
  go_enter Tryz.func98, Tryz.ntmps98
  go_wp2_with (go_at_call 125; refine (Tryz.bits_LeadingZeros64 _ _ bx1.1 (by omega)).mono ?_; rintro e w' ⟨rfl, hw'⟩; have hw2 := hw'.symm; subst hw2; rw [HS.out])
  go_quiet (fail)
  go_upto_if 54 with fail
  go_cut [8] (fun z wc => z = .int .u64 bh ∧ wc = (w.alloc (.cells #[.int .u64 0, .int .u64 0, .int .u64 0, .int .u64 0, .bool false] 130)).drewN nq)
  case first =>
    rcases HLY.out with h | h
    · subst h
      have c5 := CY.out rfl
      obtain ⟨r4, r5⟩ := R34.out.2 rfl
      go_wp2
      go_meet
      case rel => exact ⟨rfl, rfl⟩
    · subst h
      have r4 := R34.out.1 rfl
      have c6 : ((((m + 1 : Nat) : Int)) == (m : Int) + 2) = false := by rw [beq_eq_false_iff_ne]; omega
      go_wp2
      go_meet
      case rel => exact ⟨rfl, rfl⟩
  case rest =>
    obtain ⟨rfl, rfl⟩ := hcut
    clear cx1 cx0 cy0 r1 r2 R34 CY HLY w1 w2 w3 l1
    go_wp2_with fail
    go_loopw [7, 8, 10, 11, 12] (fun ta tb _ _ _ wr => ∃ (p q x0 y0 x1 y1 : Int) (t : Bool) (k : Nat), ta = .int .u64 p ∧ tb = .int .u64 q ∧ Leh a b ah bh H al bl x0 y0 x1 y1 p q (sg t) ∧ (x0 < 18446744073709551616 ∧ y0 < 18446744073709551616 ∧ x1 < 18446744073709551616 ∧ y1 < 18446744073709551616) ∧ p < 18446744073709551616 ∧ wr = ((w.alloc (.cells #[.int .u64 0, .int .u64 0, .int .u64 0, .int .u64 0, .bool false] 130)).alloc (.cells #[.int .u64 x0, .int .u64 y0, .int .u64 x1, .int .u64 y1, .bool t] 130)).drewN k) (fun _ tb _ _ _ _ => (intOf tb).toNat)
    case atStart => exact ⟨ah, bh, 1, 0, 0, 1, false, nq, rfl, rfl, Leh.start hb0 hba hbh hle, by omega, hah, rfl⟩
    case round =>
      obtain ⟨p, q, x0, y0, x1, y1, t, k, rfl, rfl, hLh, hb3, hp, rfl⟩ := hrel
      have q0 := hLh.q0
      have qp := hLh.qp
      have f1 := hLh.px0; have f2 := hLh.py0; have f3 := hLh.px1; have f4 := hLh.py1
      by_cases hz : q = 0
      · subst hz
        go_wp2
        have F := put5_cells (W := ((w.alloc (.cells #[.int .u64 0, .int .u64 0, .int .u64 0, .int .u64 0, .bool false] 130)).alloc (.cells #[.int .u64 x0, .int .u64 y0, .int .u64 x1, .int .u64 y1, .bool t] 130)).drewN k) (n := w.heap.size) (.int .u64 x0) (.int .u64 y0) (.int .u64 x1) (.int .u64 y1) (.bool t) (five_there w _ _ _ _ _ _ _ _)
        have FB := put5_below (n := w.heap.size) (.int .u64 x0) (.int .u64 y0) (.int .u64 x1) (.int .u64 y1) (.bool t) (below_two w (.cells #[.int .u64 0, .int .u64 0, .int .u64 0, .int .u64 0, .bool false] 130) (.cells #[.int .u64 x0, .int .u64 y0, .int .u64 x1, .int .u64 y1, .bool t] 130) (k)) (Nat.le_refl _)
        obtain ⟨F0, F1, F2, F3, F4⟩ := F
        unfold put5 at F0 F1 F2 F3 F4 FB
        refine bodyPost_ret (v := .agg #[.int .u64 x0, .int .u64 y0, .int .u64 x1, .int .u64 y1, .bool t]) (by simp [results, Tryz.results98, go_sem, F0, F1, F2, F3, F4]) rfl (Fore.mk rfl (Leh.seen hLh hb3.1 hb3.2.1 hb3.2.2.1 hb3.2.2.2) FB)
      · have hz' : (q == 0) = false := by rw [beq_eq_false_iff_ne]; exact hz
        obtain ⟨z1, z2, z3, z4, z5, z6, z7⟩ := Leh.sizes hLh hah hle (by omega)
        have Z7 : Hid _ := z7
        clear z7
        have e1 : IntKind.u64.wrap (p / q * x1) = p / q * x1 := le_wrap z1 (by omega)
        have e2 : IntKind.u64.wrap (p / q * y1) = p / q * y1 := le_wrap z2 (by omega)
        have e3 : IntKind.u64.wrap (x0 + p / q * x1) = x0 + p / q * x1 := le_wrap (by omega) z3
        have e4 : IntKind.u64.wrap (y0 + p / q * y1) = y0 + p / q * y1 := le_wrap (by omega) z4
        go_wp2_with fail
        go_quiet (fail)
        generalize nq = nq1
        go_wp2_with fail
        go_quiet (fail)
        rw [World.drewN_drewN, World.drewN_drewN]
        by_cases c1 : p % q < y0 + p / q * y1
        · go_wp2
          have F := put5_cells (W := ((w.alloc (.cells #[.int .u64 0, .int .u64 0, .int .u64 0, .int .u64 0, .bool false] 130)).alloc (.cells #[.int .u64 x0, .int .u64 y0, .int .u64 x1, .int .u64 y1, .bool t] 130)).drewN (k + (nq1 + nq))) (n := w.heap.size) (.int .u64 x0) (.int .u64 y0) (.int .u64 x1) (.int .u64 y1) (.bool t) (five_there w _ _ _ _ _ _ _ _)
          have FB := put5_below (n := w.heap.size) (.int .u64 x0) (.int .u64 y0) (.int .u64 x1) (.int .u64 y1) (.bool t) (below_two w (.cells #[.int .u64 0, .int .u64 0, .int .u64 0, .int .u64 0, .bool false] 130) (.cells #[.int .u64 x0, .int .u64 y0, .int .u64 x1, .int .u64 y1, .bool t] 130) (k + (nq1 + nq))) (Nat.le_refl _)
          obtain ⟨F0, F1, F2, F3, F4⟩ := F
          unfold put5 at F0 F1 F2 F3 F4 FB
          refine bodyPost_ret (v := .agg #[.int .u64 x0, .int .u64 y0, .int .u64 x1, .int .u64 y1, .bool t]) (by simp [results, Tryz.results98, go_sem, F0, F1, F2, F3, F4]) rfl (Fore.mk rfl (Leh.seen hLh hb3.1 hb3.2.1 hb3.2.2.1 hb3.2.2.2) FB)
        · have z7 := Z7.out (by omega)
          by_cases c2 : q - p % q < y1 + (y0 + p / q * y1)
          · go_wp2
            have F := put5_cells (W := ((w.alloc (.cells #[.int .u64 0, .int .u64 0, .int .u64 0, .int .u64 0, .bool false] 130)).alloc (.cells #[.int .u64 x0, .int .u64 y0, .int .u64 x1, .int .u64 y1, .bool t] 130)).drewN (k + (nq1 + nq))) (n := w.heap.size) (.int .u64 x0) (.int .u64 y0) (.int .u64 x1) (.int .u64 y1) (.bool t) (five_there w _ _ _ _ _ _ _ _)
            have FB := put5_below (n := w.heap.size) (.int .u64 x0) (.int .u64 y0) (.int .u64 x1) (.int .u64 y1) (.bool t) (below_two w (.cells #[.int .u64 0, .int .u64 0, .int .u64 0, .int .u64 0, .bool false] 130) (.cells #[.int .u64 x0, .int .u64 y0, .int .u64 x1, .int .u64 y1, .bool t] 130) (k + (nq1 + nq))) (Nat.le_refl _)
            obtain ⟨F0, F1, F2, F3, F4⟩ := F
            unfold put5 at F0 F1 F2 F3 F4 FB
            refine bodyPost_ret (v := .agg #[.int .u64 x0, .int .u64 y0, .int .u64 x1, .int .u64 y1, .bool t]) (by simp [results, Tryz.results98, go_sem, F0, F1, F2, F3, F4]) rfl (Fore.mk rfl (Leh.seen hLh hb3.1 hb3.2.1 hb3.2.2.1 hb3.2.2.2) FB)
          · have NX : Hid (Leh a b ah bh H al bl x1 y1 (x0 + p / q * x1) (y0 + p / q * y1) q (p % q) (sg (!t))) := by
              rw [sg_not]
              exact hLh.next HB.out.1 HB.out.2 hH al0 al1 bl0 bl1 (by omega) rfl rfl rfl (by omega) (by omega)
            have PA := put5_alloc (w.alloc (.cells #[.int .u64 0, .int .u64 0, .int .u64 0, .int .u64 0, .bool false] 130)) (.int .u64 x0) (.int .u64 y0) (.int .u64 x1) (.int .u64 y1) (.bool t) (.int .u64 x1) (.int .u64 y1) (.int .u64 (x0 + p / q * x1)) (.int .u64 (y0 + p / q * y1)) (.bool (!t)) 130 (k + (nq1 + nq))
            unfold put5 at PA
            simp only [World.size_alloc] at PA
            have PA' : Hid _ := PA
            clear PA
            go_wp2
            go_roundw
            case rel => exact ⟨q, p % q, x1, y1, x0 + p / q * x1, y0 + p / q * y1, !t, k + (nq1 + nq), rfl, rfl, NX.out, by omega, by omega, PA'.out⟩
            case measure => simp [intOf]; omega
end Go.Proofs.YtfalncbcomlelaaGreatDoor
