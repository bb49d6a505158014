import Derived.Test.YthadighbhdekdaaDoorDu1
import Derived.Test.YthadighbhdekdaaDoorDy9
import Derived.RegionTactic
namespace Go.Proofs.YthadighbhdekdaaDoor.Dt
open Go.RowKit Go.Lib Go.Proofs.YthadighbhdekdaaDoor.Dy Dc
/-- Which of the three numbers the place belongs to. -/
def kx (i : Nat) : Int := if i ≤ 4 then 0 else if i ≤ 7 then 1 else 2
set_option maxHeartbeats 12800000 in
set_option maxRecDepth 100000 in
theorem RParse_walk (s : ByteArray) (w : World) (hs : s.size = 10) (RV : Value) (HR : Hid ((∃ j, j < 10 ∧ okb s j = false) → RV = .tuple #[dt 0 0 0, .int .i64 2])) (gd : Bool) (GO : ∀ W, Calls Tryd.prog 9 #[dt (nv s 0 4) (nv s 5 7) (nv s 8 10)] W fun e w' => e = .returned (.bool gd) ∧ Below W.heap.size W w') (HY : Hid ((∀ j, j < 10 → okb s j = true) → RV = if gd then .tuple #[dt (nv s 0 4) (nv s 5 7) (nv s 8 10), .int .i64 0] else .tuple #[dt 0 0 0, .int .i64 70])) :
    Calls Tryd.prog 8 #[.string s] w fun e w' => e = .returned RV ∧ Below w.heap.size w w' := by
  have R0 := (Blk.new w #[.int .i64 0, .int .i64 0, .int .i64 0] 23).alloc (.cells #[.int .i64 0, .int .i64 0, .int .i64 0] 47)
  have X := Blk.new (w.alloc (.cells #[.int .i64 0, .int .i64 0, .int .i64 0] 23)) #[.int .i64 0, .int .i64 0, .int .i64 0] 47
  rw [show (w.alloc (.cells #[.int .i64 0, .int .i64 0, .int .i64 0] 23)).heap.size = w.heap.size + 1 by simp] at X
  have p0 := belT (bl (w := w) #[.int .i64 0, .int .i64 0, .int .i64 0] 23) (bl (w := w.alloc (.cells #[.int .i64 0, .int .i64 0, .int .i64 0] 23)) #[.int .i64 0, .int .i64 0, .int .i64 0] 47)
  have hs' : (s.size : Int) = 10 := by omega
  unfold dt at *
  go_enter Tryd.func8, Tryd.ntmps8
  go_wp2_with fail
  go_loopw [5, 6] (fun kk t V => ∃ i : Nat, i ≤ 10 ∧ t = .int .i64 (i : Int) ∧ kk = .int .i64 (kx i) ∧ Hid (∀ j, j < i → okb s j = true) ∧ Blk V (w.heap.size + 1) #[.int .i64 (nv s 0 (min i 4)), .int .i64 (nv s 5 (max 5 (min i 7))), .int .i64 (nv s 8 (max 8 i))] 47 ∧ Blk V w.heap.size #[.int .i64 0, .int .i64 0, .int .i64 0] 23 ∧ Below w.heap.size w V) (fun _ t _ => 10 - (RowKit.intOf t).toNat)
  case atStart => exact ⟨0, by omega, rfl, rfl, fun j hj => absurd hj (by omega), by rw [show nv s 0 (min 0 4) = 0 from nv_0 s 0, show nv s 5 (max 5 (min 0 7)) = 0 from nv_0 s 5, show nv s 8 (max 8 0) = 0 from nv_0 s 8]; exact X, R0, p0⟩
  case round =>
    clear X R0 p0
    obtain ⟨i, i1, rfl, rfl, hd, X, R0, p0⟩ := hrel
    by_cases ic : i < 10
    rcases ten ic with rfl | rfl | rfl | rfl | rfl | rfl | rfl | rfl | rfl | rfl
    · have B := bt_in (s := s) (i := 0) (by omega)
      rw [show kx 0 = 0 from rfl]
      by_cases b1 : bt s 0 < 48
      · have bi : (s[0].toNat : Int) < 48 := by rw [← B]; omega
        have N : Hid (okb s 0 = false) := by show _ = _; unfold okb dgt; rw [if_neg (by omega)]; simp; omega
        have r0 := R0.c0
        have r1 := R0.c1
        have r2 := R0.c2
        have f0 := R0.free 0
        have f1 := R0.free 1
        have f2 := R0.free 2
        clear B b1
        go_wp2_with fail
        rw [HR.out ⟨0, by omega, N.out⟩]
        have KE := dput3 R0 (0) (0) (0)
        have bE := dset3 (x := .int .i64 (0)) (y := .int .i64 (0)) (z := .int .i64 (0)) p0 (show w.heap.size ≤ w.heap.size by omega)
        generalize ((wr.setCell ⟨w.heap.size, 0, none⟩ (.int .i64 (0))).setCell ⟨w.heap.size, 1, none⟩ (.int .i64 (0))).setCell ⟨w.heap.size, 2, none⟩ (.int .i64 (0)) = WE at *
        have z0 := KE.c0
        have z1 := KE.c1
        have z2 := KE.c2
        exact bodyPost_ret (v := .tuple #[.agg #[.int .i64 0, .int .i64 0, .int .i64 0], .int .i64 2]) (by simp [results, Tryd.results8, go_sem, z0, z1, z2]) rfl ⟨rfl, bE⟩
      by_cases b2 : 57 < bt s 0
      · have bi0 : (48 : Int) ≤ (s[0].toNat : Int) := by rw [← B]; omega
        have bi : (57 : Int) < (s[0].toNat : Int) := by rw [← B]; omega
        have N : Hid (okb s 0 = false) := by show _ = _; unfold okb dgt; rw [if_neg (by omega)]; simp; omega
        have r0 := R0.c0
        have r1 := R0.c1
        have r2 := R0.c2
        have f0 := R0.free 0
        have f1 := R0.free 1
        have f2 := R0.free 2
        clear B b1 b2
        go_wp2_with fail
        rw [HR.out ⟨0, by omega, N.out⟩]
        have KE := dput3 R0 (0) (0) (0)
        have bE := dset3 (x := .int .i64 (0)) (y := .int .i64 (0)) (z := .int .i64 (0)) p0 (show w.heap.size ≤ w.heap.size by omega)
        generalize ((wr.setCell ⟨w.heap.size, 0, none⟩ (.int .i64 (0))).setCell ⟨w.heap.size, 1, none⟩ (.int .i64 (0))).setCell ⟨w.heap.size, 2, none⟩ (.int .i64 (0)) = WE at *
        have z0 := KE.c0
        have z1 := KE.c1
        have z2 := KE.c2
        exact bodyPost_ret (v := .tuple #[.agg #[.int .i64 0, .int .i64 0, .int .i64 0], .int .i64 2]) (by simp [results, Tryd.results8, go_sem, z0, z1, z2]) rfl ⟨rfl, bE⟩
      · have bi : (48 : Int) ≤ (s[0].toNat : Int) := by rw [← B]; omega
        have bi2 : (s[0].toNat : Int) ≤ 57 := by rw [← B]; omega
        have N : Hid (∀ j, j < 0 + 1 → okb s j = true) := fun j hj => by
          by_cases c : j = 0
          · subst c; unfold okb dgt; rw [if_neg (by omega)]; simp; omega
          · exact hd.out j (by omega)
        obtain ⟨O, hO⟩ : ∃ O, nv s 0 0 = O := ⟨_, rfl⟩
        have nb := nv_bd s 0 0 4 (by omega) (fun j j1 j2 => by have := hd.out j (by omega); unfold okb dgt at this; rw [if_neg (by omega)] at this; simpa using this) (by omega) (by omega)
        rw [hO] at nb
        have nb2 : O < 10000 := by have := nb.2; omega
        have nb1 := nb.1
        have E : Hid (nv s 0 (0 + 1) = O * 10 + ((s[0].toNat : Int) - 48)) := by have q := nv_more s 0 0 (by omega) (by omega) (by omega); rw [hO, B] at q; exact q
        have u1 : IntKind.u8.wrap ((s[0].toNat : Int) - 48) = (s[0].toNat : Int) - 48 := by simp [IntKind.wrap, IntKind.bits, IntKind.signed]; omega
        have u2 : IntKind.i64.wrap (O * 10) = O * 10 := wrapI _ (by omega) (by omega)
        have u3 : IntKind.i64.wrap ((s[0].toNat : Int) - 48) = (s[0].toNat : Int) - 48 := wrapI _ (by omega) (by omega)
        have u4 : IntKind.i64.wrap (O * 10 + ((s[0].toNat : Int) - 48)) = O * 10 + ((s[0].toNat : Int) - 48) := wrapI _ (by omega) (by omega)
        have x0 : wr.cell? ⟨w.heap.size + 1, 0, none⟩ = some (.int .i64 O) := by rw [← hO]; exact X.at 0
        have x1 := X.free 0
        have X2 : Hid (Blk (wr.setCell ⟨w.heap.size + 1, 0, none⟩ (.int .i64 (O * 10 + ((s[0].toNat : Int) - 48)))) (w.heap.size + 1) #[.int .i64 (nv s 0 (min 1 4)), .int .i64 (nv s 5 (max 5 (min 1 7))), .int .i64 (nv s 8 (max 8 1))] 47) := by
          have := dput X 0 (.int .i64 (O * 10 + ((s[0].toNat : Int) - 48)))
          rw [← E.out] at this ⊢
          exact this
        have R2 : Hid _ := dskip R0 (show w.heap.size + 1 ≠ w.heap.size by omega) 0 (.int .i64 (O * 10 + ((s[0].toNat : Int) - 48)))
        have P2 : Hid _ := p0.setCell (p := ⟨w.heap.size + 1, 0, none⟩) (show w.heap.size ≤ w.heap.size + 1 by omega) (.int .i64 (O * 10 + ((s[0].toNat : Int) - 48)))
        clear B b1 b2 hO nb
        go_wp2_with fail
        go_region
        all_goals
          go_wp2_with fail
          go_roundw
          case rel => exact ⟨0 + 1, by omega, by go_num, rfl, N, X2.out, R2.out, ⟨P2.out.os, P2.out.tape, P2.out.output, P2.out.size, P2.out.block⟩⟩
          case measure => simp [RowKit.intOf]
    · have B := bt_in (s := s) (i := 1) (by omega)
      rw [show kx 1 = 0 from rfl]
      by_cases b1 : bt s 1 < 48
      · have bi : (s[1].toNat : Int) < 48 := by rw [← B]; omega
        have N : Hid (okb s 1 = false) := by show _ = _; unfold okb dgt; rw [if_neg (by omega)]; simp; omega
        have r0 := R0.c0
        have r1 := R0.c1
        have r2 := R0.c2
        have f0 := R0.free 0
        have f1 := R0.free 1
        have f2 := R0.free 2
        clear B b1
        go_wp2_with fail
        rw [HR.out ⟨1, by omega, N.out⟩]
        have KE := dput3 R0 (0) (0) (0)
        have bE := dset3 (x := .int .i64 (0)) (y := .int .i64 (0)) (z := .int .i64 (0)) p0 (show w.heap.size ≤ w.heap.size by omega)
        generalize ((wr.setCell ⟨w.heap.size, 0, none⟩ (.int .i64 (0))).setCell ⟨w.heap.size, 1, none⟩ (.int .i64 (0))).setCell ⟨w.heap.size, 2, none⟩ (.int .i64 (0)) = WE at *
        have z0 := KE.c0
        have z1 := KE.c1
        have z2 := KE.c2
        exact bodyPost_ret (v := .tuple #[.agg #[.int .i64 0, .int .i64 0, .int .i64 0], .int .i64 2]) (by simp [results, Tryd.results8, go_sem, z0, z1, z2]) rfl ⟨rfl, bE⟩
      by_cases b2 : 57 < bt s 1
      · have bi0 : (48 : Int) ≤ (s[1].toNat : Int) := by rw [← B]; omega
        have bi : (57 : Int) < (s[1].toNat : Int) := by rw [← B]; omega
        have N : Hid (okb s 1 = false) := by show _ = _; unfold okb dgt; rw [if_neg (by omega)]; simp; omega
        have r0 := R0.c0
        have r1 := R0.c1
        have r2 := R0.c2
        have f0 := R0.free 0
        have f1 := R0.free 1
        have f2 := R0.free 2
        clear B b1 b2
        go_wp2_with fail
        rw [HR.out ⟨1, by omega, N.out⟩]
        have KE := dput3 R0 (0) (0) (0)
        have bE := dset3 (x := .int .i64 (0)) (y := .int .i64 (0)) (z := .int .i64 (0)) p0 (show w.heap.size ≤ w.heap.size by omega)
        generalize ((wr.setCell ⟨w.heap.size, 0, none⟩ (.int .i64 (0))).setCell ⟨w.heap.size, 1, none⟩ (.int .i64 (0))).setCell ⟨w.heap.size, 2, none⟩ (.int .i64 (0)) = WE at *
        have z0 := KE.c0
        have z1 := KE.c1
        have z2 := KE.c2
        exact bodyPost_ret (v := .tuple #[.agg #[.int .i64 0, .int .i64 0, .int .i64 0], .int .i64 2]) (by simp [results, Tryd.results8, go_sem, z0, z1, z2]) rfl ⟨rfl, bE⟩
      · have bi : (48 : Int) ≤ (s[1].toNat : Int) := by rw [← B]; omega
        have bi2 : (s[1].toNat : Int) ≤ 57 := by rw [← B]; omega
        have N : Hid (∀ j, j < 1 + 1 → okb s j = true) := fun j hj => by
          by_cases c : j = 1
          · subst c; unfold okb dgt; rw [if_neg (by omega)]; simp; omega
          · exact hd.out j (by omega)
        obtain ⟨O, hO⟩ : ∃ O, nv s 0 1 = O := ⟨_, rfl⟩
        have nb := nv_bd s 0 1 4 (by omega) (fun j j1 j2 => by have := hd.out j (by omega); unfold okb dgt at this; rw [if_neg (by omega)] at this; simpa using this) (by omega) (by omega)
        rw [hO] at nb
        have nb2 : O < 10000 := by have := nb.2; omega
        have nb1 := nb.1
        have E : Hid (nv s 0 (1 + 1) = O * 10 + ((s[1].toNat : Int) - 48)) := by have q := nv_more s 0 1 (by omega) (by omega) (by omega); rw [hO, B] at q; exact q
        have u1 : IntKind.u8.wrap ((s[1].toNat : Int) - 48) = (s[1].toNat : Int) - 48 := by simp [IntKind.wrap, IntKind.bits, IntKind.signed]; omega
        have u2 : IntKind.i64.wrap (O * 10) = O * 10 := wrapI _ (by omega) (by omega)
        have u3 : IntKind.i64.wrap ((s[1].toNat : Int) - 48) = (s[1].toNat : Int) - 48 := wrapI _ (by omega) (by omega)
        have u4 : IntKind.i64.wrap (O * 10 + ((s[1].toNat : Int) - 48)) = O * 10 + ((s[1].toNat : Int) - 48) := wrapI _ (by omega) (by omega)
        have x0 : wr.cell? ⟨w.heap.size + 1, 0, none⟩ = some (.int .i64 O) := by rw [← hO]; exact X.at 0
        have x1 := X.free 0
        have X2 : Hid (Blk (wr.setCell ⟨w.heap.size + 1, 0, none⟩ (.int .i64 (O * 10 + ((s[1].toNat : Int) - 48)))) (w.heap.size + 1) #[.int .i64 (nv s 0 (min 2 4)), .int .i64 (nv s 5 (max 5 (min 2 7))), .int .i64 (nv s 8 (max 8 2))] 47) := by
          have := dput X 0 (.int .i64 (O * 10 + ((s[1].toNat : Int) - 48)))
          rw [← E.out] at this ⊢
          exact this
        have R2 : Hid _ := dskip R0 (show w.heap.size + 1 ≠ w.heap.size by omega) 0 (.int .i64 (O * 10 + ((s[1].toNat : Int) - 48)))
        have P2 : Hid _ := p0.setCell (p := ⟨w.heap.size + 1, 0, none⟩) (show w.heap.size ≤ w.heap.size + 1 by omega) (.int .i64 (O * 10 + ((s[1].toNat : Int) - 48)))
        clear B b1 b2 hO nb
        go_wp2_with fail
        go_region
        all_goals
          go_wp2_with fail
          go_roundw
          case rel => exact ⟨1 + 1, by omega, by go_num, rfl, N, X2.out, R2.out, ⟨P2.out.os, P2.out.tape, P2.out.output, P2.out.size, P2.out.block⟩⟩
          case measure => simp [RowKit.intOf]
    · have B := bt_in (s := s) (i := 2) (by omega)
      rw [show kx 2 = 0 from rfl]
      by_cases b1 : bt s 2 < 48
      · have bi : (s[2].toNat : Int) < 48 := by rw [← B]; omega
        have N : Hid (okb s 2 = false) := by show _ = _; unfold okb dgt; rw [if_neg (by omega)]; simp; omega
        have r0 := R0.c0
        have r1 := R0.c1
        have r2 := R0.c2
        have f0 := R0.free 0
        have f1 := R0.free 1
        have f2 := R0.free 2
        clear B b1
        go_wp2_with fail
        rw [HR.out ⟨2, by omega, N.out⟩]
        have KE := dput3 R0 (0) (0) (0)
        have bE := dset3 (x := .int .i64 (0)) (y := .int .i64 (0)) (z := .int .i64 (0)) p0 (show w.heap.size ≤ w.heap.size by omega)
        generalize ((wr.setCell ⟨w.heap.size, 0, none⟩ (.int .i64 (0))).setCell ⟨w.heap.size, 1, none⟩ (.int .i64 (0))).setCell ⟨w.heap.size, 2, none⟩ (.int .i64 (0)) = WE at *
        have z0 := KE.c0
        have z1 := KE.c1
        have z2 := KE.c2
        exact bodyPost_ret (v := .tuple #[.agg #[.int .i64 0, .int .i64 0, .int .i64 0], .int .i64 2]) (by simp [results, Tryd.results8, go_sem, z0, z1, z2]) rfl ⟨rfl, bE⟩
      by_cases b2 : 57 < bt s 2
      · have bi0 : (48 : Int) ≤ (s[2].toNat : Int) := by rw [← B]; omega
        have bi : (57 : Int) < (s[2].toNat : Int) := by rw [← B]; omega
        have N : Hid (okb s 2 = false) := by show _ = _; unfold okb dgt; rw [if_neg (by omega)]; simp; omega
        have r0 := R0.c0
        have r1 := R0.c1
        have r2 := R0.c2
        have f0 := R0.free 0
        have f1 := R0.free 1
        have f2 := R0.free 2
        clear B b1 b2
        go_wp2_with fail
        rw [HR.out ⟨2, by omega, N.out⟩]
        have KE := dput3 R0 (0) (0) (0)
        have bE := dset3 (x := .int .i64 (0)) (y := .int .i64 (0)) (z := .int .i64 (0)) p0 (show w.heap.size ≤ w.heap.size by omega)
        generalize ((wr.setCell ⟨w.heap.size, 0, none⟩ (.int .i64 (0))).setCell ⟨w.heap.size, 1, none⟩ (.int .i64 (0))).setCell ⟨w.heap.size, 2, none⟩ (.int .i64 (0)) = WE at *
        have z0 := KE.c0
        have z1 := KE.c1
        have z2 := KE.c2
        exact bodyPost_ret (v := .tuple #[.agg #[.int .i64 0, .int .i64 0, .int .i64 0], .int .i64 2]) (by simp [results, Tryd.results8, go_sem, z0, z1, z2]) rfl ⟨rfl, bE⟩
      · have bi : (48 : Int) ≤ (s[2].toNat : Int) := by rw [← B]; omega
        have bi2 : (s[2].toNat : Int) ≤ 57 := by rw [← B]; omega
        have N : Hid (∀ j, j < 2 + 1 → okb s j = true) := fun j hj => by
          by_cases c : j = 2
          · subst c; unfold okb dgt; rw [if_neg (by omega)]; simp; omega
          · exact hd.out j (by omega)
        obtain ⟨O, hO⟩ : ∃ O, nv s 0 2 = O := ⟨_, rfl⟩
        have nb := nv_bd s 0 2 4 (by omega) (fun j j1 j2 => by have := hd.out j (by omega); unfold okb dgt at this; rw [if_neg (by omega)] at this; simpa using this) (by omega) (by omega)
        rw [hO] at nb
        have nb2 : O < 10000 := by have := nb.2; omega
        have nb1 := nb.1
        have E : Hid (nv s 0 (2 + 1) = O * 10 + ((s[2].toNat : Int) - 48)) := by have q := nv_more s 0 2 (by omega) (by omega) (by omega); rw [hO, B] at q; exact q
        have u1 : IntKind.u8.wrap ((s[2].toNat : Int) - 48) = (s[2].toNat : Int) - 48 := by simp [IntKind.wrap, IntKind.bits, IntKind.signed]; omega
        have u2 : IntKind.i64.wrap (O * 10) = O * 10 := wrapI _ (by omega) (by omega)
        have u3 : IntKind.i64.wrap ((s[2].toNat : Int) - 48) = (s[2].toNat : Int) - 48 := wrapI _ (by omega) (by omega)
        have u4 : IntKind.i64.wrap (O * 10 + ((s[2].toNat : Int) - 48)) = O * 10 + ((s[2].toNat : Int) - 48) := wrapI _ (by omega) (by omega)
        have x0 : wr.cell? ⟨w.heap.size + 1, 0, none⟩ = some (.int .i64 O) := by rw [← hO]; exact X.at 0
        have x1 := X.free 0
        have X2 : Hid (Blk (wr.setCell ⟨w.heap.size + 1, 0, none⟩ (.int .i64 (O * 10 + ((s[2].toNat : Int) - 48)))) (w.heap.size + 1) #[.int .i64 (nv s 0 (min 3 4)), .int .i64 (nv s 5 (max 5 (min 3 7))), .int .i64 (nv s 8 (max 8 3))] 47) := by
          have := dput X 0 (.int .i64 (O * 10 + ((s[2].toNat : Int) - 48)))
          rw [← E.out] at this ⊢
          exact this
        have R2 : Hid _ := dskip R0 (show w.heap.size + 1 ≠ w.heap.size by omega) 0 (.int .i64 (O * 10 + ((s[2].toNat : Int) - 48)))
        have P2 : Hid _ := p0.setCell (p := ⟨w.heap.size + 1, 0, none⟩) (show w.heap.size ≤ w.heap.size + 1 by omega) (.int .i64 (O * 10 + ((s[2].toNat : Int) - 48)))
        clear B b1 b2 hO nb
        go_wp2_with fail
        go_region
        all_goals
          go_wp2_with fail
          go_roundw
          case rel => exact ⟨2 + 1, by omega, by go_num, rfl, N, X2.out, R2.out, ⟨P2.out.os, P2.out.tape, P2.out.output, P2.out.size, P2.out.block⟩⟩
          case measure => simp [RowKit.intOf]
    · have B := bt_in (s := s) (i := 3) (by omega)
      rw [show kx 3 = 0 from rfl]
      by_cases b1 : bt s 3 < 48
      · have bi : (s[3].toNat : Int) < 48 := by rw [← B]; omega
        have N : Hid (okb s 3 = false) := by show _ = _; unfold okb dgt; rw [if_neg (by omega)]; simp; omega
        have r0 := R0.c0
        have r1 := R0.c1
        have r2 := R0.c2
        have f0 := R0.free 0
        have f1 := R0.free 1
        have f2 := R0.free 2
        clear B b1
        go_wp2_with fail
        rw [HR.out ⟨3, by omega, N.out⟩]
        have KE := dput3 R0 (0) (0) (0)
        have bE := dset3 (x := .int .i64 (0)) (y := .int .i64 (0)) (z := .int .i64 (0)) p0 (show w.heap.size ≤ w.heap.size by omega)
        generalize ((wr.setCell ⟨w.heap.size, 0, none⟩ (.int .i64 (0))).setCell ⟨w.heap.size, 1, none⟩ (.int .i64 (0))).setCell ⟨w.heap.size, 2, none⟩ (.int .i64 (0)) = WE at *
        have z0 := KE.c0
        have z1 := KE.c1
        have z2 := KE.c2
        exact bodyPost_ret (v := .tuple #[.agg #[.int .i64 0, .int .i64 0, .int .i64 0], .int .i64 2]) (by simp [results, Tryd.results8, go_sem, z0, z1, z2]) rfl ⟨rfl, bE⟩
      by_cases b2 : 57 < bt s 3
      · have bi0 : (48 : Int) ≤ (s[3].toNat : Int) := by rw [← B]; omega
        have bi : (57 : Int) < (s[3].toNat : Int) := by rw [← B]; omega
        have N : Hid (okb s 3 = false) := by show _ = _; unfold okb dgt; rw [if_neg (by omega)]; simp; omega
        have r0 := R0.c0
        have r1 := R0.c1
        have r2 := R0.c2
        have f0 := R0.free 0
        have f1 := R0.free 1
        have f2 := R0.free 2
        clear B b1 b2
        go_wp2_with fail
        rw [HR.out ⟨3, by omega, N.out⟩]
        have KE := dput3 R0 (0) (0) (0)
        have bE := dset3 (x := .int .i64 (0)) (y := .int .i64 (0)) (z := .int .i64 (0)) p0 (show w.heap.size ≤ w.heap.size by omega)
        generalize ((wr.setCell ⟨w.heap.size, 0, none⟩ (.int .i64 (0))).setCell ⟨w.heap.size, 1, none⟩ (.int .i64 (0))).setCell ⟨w.heap.size, 2, none⟩ (.int .i64 (0)) = WE at *
        have z0 := KE.c0
        have z1 := KE.c1
        have z2 := KE.c2
        exact bodyPost_ret (v := .tuple #[.agg #[.int .i64 0, .int .i64 0, .int .i64 0], .int .i64 2]) (by simp [results, Tryd.results8, go_sem, z0, z1, z2]) rfl ⟨rfl, bE⟩
      · have bi : (48 : Int) ≤ (s[3].toNat : Int) := by rw [← B]; omega
        have bi2 : (s[3].toNat : Int) ≤ 57 := by rw [← B]; omega
        have N : Hid (∀ j, j < 3 + 1 → okb s j = true) := fun j hj => by
          by_cases c : j = 3
          · subst c; unfold okb dgt; rw [if_neg (by omega)]; simp; omega
          · exact hd.out j (by omega)
        obtain ⟨O, hO⟩ : ∃ O, nv s 0 3 = O := ⟨_, rfl⟩
        have nb := nv_bd s 0 3 4 (by omega) (fun j j1 j2 => by have := hd.out j (by omega); unfold okb dgt at this; rw [if_neg (by omega)] at this; simpa using this) (by omega) (by omega)
        rw [hO] at nb
        have nb2 : O < 10000 := by have := nb.2; omega
        have nb1 := nb.1
        have E : Hid (nv s 0 (3 + 1) = O * 10 + ((s[3].toNat : Int) - 48)) := by have q := nv_more s 0 3 (by omega) (by omega) (by omega); rw [hO, B] at q; exact q
        have u1 : IntKind.u8.wrap ((s[3].toNat : Int) - 48) = (s[3].toNat : Int) - 48 := by simp [IntKind.wrap, IntKind.bits, IntKind.signed]; omega
        have u2 : IntKind.i64.wrap (O * 10) = O * 10 := wrapI _ (by omega) (by omega)
        have u3 : IntKind.i64.wrap ((s[3].toNat : Int) - 48) = (s[3].toNat : Int) - 48 := wrapI _ (by omega) (by omega)
        have u4 : IntKind.i64.wrap (O * 10 + ((s[3].toNat : Int) - 48)) = O * 10 + ((s[3].toNat : Int) - 48) := wrapI _ (by omega) (by omega)
        have x0 : wr.cell? ⟨w.heap.size + 1, 0, none⟩ = some (.int .i64 O) := by rw [← hO]; exact X.at 0
        have x1 := X.free 0
        have X2 : Hid (Blk (wr.setCell ⟨w.heap.size + 1, 0, none⟩ (.int .i64 (O * 10 + ((s[3].toNat : Int) - 48)))) (w.heap.size + 1) #[.int .i64 (nv s 0 (min 4 4)), .int .i64 (nv s 5 (max 5 (min 4 7))), .int .i64 (nv s 8 (max 8 4))] 47) := by
          have := dput X 0 (.int .i64 (O * 10 + ((s[3].toNat : Int) - 48)))
          rw [← E.out] at this ⊢
          exact this
        have R2 : Hid _ := dskip R0 (show w.heap.size + 1 ≠ w.heap.size by omega) 0 (.int .i64 (O * 10 + ((s[3].toNat : Int) - 48)))
        have P2 : Hid _ := p0.setCell (p := ⟨w.heap.size + 1, 0, none⟩) (show w.heap.size ≤ w.heap.size + 1 by omega) (.int .i64 (O * 10 + ((s[3].toNat : Int) - 48)))
        clear B b1 b2 hO nb
        go_wp2_with fail
        go_region
        all_goals
          go_wp2_with fail
          go_roundw
          case rel => exact ⟨3 + 1, by omega, by go_num, rfl, N, X2.out, R2.out, ⟨P2.out.os, P2.out.tape, P2.out.output, P2.out.size, P2.out.block⟩⟩
          case measure => simp [RowKit.intOf]
    · have B := bt_in (s := s) (i := 4) (by omega)
      rw [show kx 4 = 0 from rfl]
      by_cases b : bt s 4 = 45
      · have bi : (s[4].toNat : Int) = 45 := by rw [← B, b]; rfl
        have N : Hid (∀ j, j < 4 + 1 → okb s j = true) := fun j hj => by
          by_cases c : j = 4
          · subst c; unfold okb; rw [if_pos (by omega), decide_eq_true b]
          · exact hd.out j (by omega)
        clear B b
        go_wp2_with fail
        go_roundw
        case rel => exact ⟨4 + 1, by omega, by go_num, rfl, N, X, R0, p0⟩
        case measure => simp [RowKit.intOf]
      · have bn : ¬ (s[4].toNat : Int) = 45 := by rw [← B]; omega
        have N : Hid (okb s 4 = false) := by show _ = _; unfold okb; rw [if_pos (by omega), decide_eq_false b]
        have r0 := R0.c0
        have r1 := R0.c1
        have r2 := R0.c2
        have f0 := R0.free 0
        have f1 := R0.free 1
        have f2 := R0.free 2
        clear B b
        go_wp2_with fail
        rw [HR.out ⟨4, by omega, N.out⟩]
        have KE := dput3 R0 (0) (0) (0)
        have bE := dset3 (x := .int .i64 (0)) (y := .int .i64 (0)) (z := .int .i64 (0)) p0 (show w.heap.size ≤ w.heap.size by omega)
        generalize ((wr.setCell ⟨w.heap.size, 0, none⟩ (.int .i64 (0))).setCell ⟨w.heap.size, 1, none⟩ (.int .i64 (0))).setCell ⟨w.heap.size, 2, none⟩ (.int .i64 (0)) = WE at *
        have z0 := KE.c0
        have z1 := KE.c1
        have z2 := KE.c2
        exact bodyPost_ret (v := .tuple #[.agg #[.int .i64 0, .int .i64 0, .int .i64 0], .int .i64 2]) (by simp [results, Tryd.results8, go_sem, z0, z1, z2]) rfl ⟨rfl, bE⟩
    · have B := bt_in (s := s) (i := 5) (by omega)
      rw [show kx 5 = 1 from rfl]
      by_cases b1 : bt s 5 < 48
      · have bi : (s[5].toNat : Int) < 48 := by rw [← B]; omega
        have N : Hid (okb s 5 = false) := by show _ = _; unfold okb dgt; rw [if_neg (by omega)]; simp; omega
        have r0 := R0.c0
        have r1 := R0.c1
        have r2 := R0.c2
        have f0 := R0.free 0
        have f1 := R0.free 1
        have f2 := R0.free 2
        clear B b1
        go_wp2_with fail
        rw [HR.out ⟨5, by omega, N.out⟩]
        have KE := dput3 R0 (0) (0) (0)
        have bE := dset3 (x := .int .i64 (0)) (y := .int .i64 (0)) (z := .int .i64 (0)) p0 (show w.heap.size ≤ w.heap.size by omega)
        generalize ((wr.setCell ⟨w.heap.size, 0, none⟩ (.int .i64 (0))).setCell ⟨w.heap.size, 1, none⟩ (.int .i64 (0))).setCell ⟨w.heap.size, 2, none⟩ (.int .i64 (0)) = WE at *
        have z0 := KE.c0
        have z1 := KE.c1
        have z2 := KE.c2
        exact bodyPost_ret (v := .tuple #[.agg #[.int .i64 0, .int .i64 0, .int .i64 0], .int .i64 2]) (by simp [results, Tryd.results8, go_sem, z0, z1, z2]) rfl ⟨rfl, bE⟩
      by_cases b2 : 57 < bt s 5
      · have bi0 : (48 : Int) ≤ (s[5].toNat : Int) := by rw [← B]; omega
        have bi : (57 : Int) < (s[5].toNat : Int) := by rw [← B]; omega
        have N : Hid (okb s 5 = false) := by show _ = _; unfold okb dgt; rw [if_neg (by omega)]; simp; omega
        have r0 := R0.c0
        have r1 := R0.c1
        have r2 := R0.c2
        have f0 := R0.free 0
        have f1 := R0.free 1
        have f2 := R0.free 2
        clear B b1 b2
        go_wp2_with fail
        rw [HR.out ⟨5, by omega, N.out⟩]
        have KE := dput3 R0 (0) (0) (0)
        have bE := dset3 (x := .int .i64 (0)) (y := .int .i64 (0)) (z := .int .i64 (0)) p0 (show w.heap.size ≤ w.heap.size by omega)
        generalize ((wr.setCell ⟨w.heap.size, 0, none⟩ (.int .i64 (0))).setCell ⟨w.heap.size, 1, none⟩ (.int .i64 (0))).setCell ⟨w.heap.size, 2, none⟩ (.int .i64 (0)) = WE at *
        have z0 := KE.c0
        have z1 := KE.c1
        have z2 := KE.c2
        exact bodyPost_ret (v := .tuple #[.agg #[.int .i64 0, .int .i64 0, .int .i64 0], .int .i64 2]) (by simp [results, Tryd.results8, go_sem, z0, z1, z2]) rfl ⟨rfl, bE⟩
      · have bi : (48 : Int) ≤ (s[5].toNat : Int) := by rw [← B]; omega
        have bi2 : (s[5].toNat : Int) ≤ 57 := by rw [← B]; omega
        have N : Hid (∀ j, j < 5 + 1 → okb s j = true) := fun j hj => by
          by_cases c : j = 5
          · subst c; unfold okb dgt; rw [if_neg (by omega)]; simp; omega
          · exact hd.out j (by omega)
        obtain ⟨O, hO⟩ : ∃ O, nv s 5 5 = O := ⟨_, rfl⟩
        have nb := nv_bd s 5 5 4 (by omega) (fun j j1 j2 => by have := hd.out j (by omega); unfold okb dgt at this; rw [if_neg (by omega)] at this; simpa using this) (by omega) (by omega)
        rw [hO] at nb
        have nb2 : O < 10000 := by have := nb.2; omega
        have nb1 := nb.1
        have E : Hid (nv s 5 (5 + 1) = O * 10 + ((s[5].toNat : Int) - 48)) := by have q := nv_more s 5 5 (by omega) (by omega) (by omega); rw [hO, B] at q; exact q
        have u1 : IntKind.u8.wrap ((s[5].toNat : Int) - 48) = (s[5].toNat : Int) - 48 := by simp [IntKind.wrap, IntKind.bits, IntKind.signed]; omega
        have u2 : IntKind.i64.wrap (O * 10) = O * 10 := wrapI _ (by omega) (by omega)
        have u3 : IntKind.i64.wrap ((s[5].toNat : Int) - 48) = (s[5].toNat : Int) - 48 := wrapI _ (by omega) (by omega)
        have u4 : IntKind.i64.wrap (O * 10 + ((s[5].toNat : Int) - 48)) = O * 10 + ((s[5].toNat : Int) - 48) := wrapI _ (by omega) (by omega)
        have x0 : wr.cell? ⟨w.heap.size + 1, 1, none⟩ = some (.int .i64 O) := by rw [← hO]; exact X.at 1
        have x1 := X.free 1
        have X2 : Hid (Blk (wr.setCell ⟨w.heap.size + 1, 1, none⟩ (.int .i64 (O * 10 + ((s[5].toNat : Int) - 48)))) (w.heap.size + 1) #[.int .i64 (nv s 0 (min 6 4)), .int .i64 (nv s 5 (max 5 (min 6 7))), .int .i64 (nv s 8 (max 8 6))] 47) := by
          have := dput X 1 (.int .i64 (O * 10 + ((s[5].toNat : Int) - 48)))
          rw [← E.out] at this ⊢
          exact this
        have R2 : Hid _ := dskip R0 (show w.heap.size + 1 ≠ w.heap.size by omega) 1 (.int .i64 (O * 10 + ((s[5].toNat : Int) - 48)))
        have P2 : Hid _ := p0.setCell (p := ⟨w.heap.size + 1, 1, none⟩) (show w.heap.size ≤ w.heap.size + 1 by omega) (.int .i64 (O * 10 + ((s[5].toNat : Int) - 48)))
        clear B b1 b2 hO nb
        go_wp2_with fail
        go_region
        all_goals
          go_wp2_with fail
          go_roundw
          case rel => exact ⟨5 + 1, by omega, by go_num, rfl, N, X2.out, R2.out, ⟨P2.out.os, P2.out.tape, P2.out.output, P2.out.size, P2.out.block⟩⟩
          case measure => simp [RowKit.intOf]
    · have B := bt_in (s := s) (i := 6) (by omega)
      rw [show kx 6 = 1 from rfl]
      by_cases b1 : bt s 6 < 48
      · have bi : (s[6].toNat : Int) < 48 := by rw [← B]; omega
        have N : Hid (okb s 6 = false) := by show _ = _; unfold okb dgt; rw [if_neg (by omega)]; simp; omega
        have r0 := R0.c0
        have r1 := R0.c1
        have r2 := R0.c2
        have f0 := R0.free 0
        have f1 := R0.free 1
        have f2 := R0.free 2
        clear B b1
        go_wp2_with fail
        rw [HR.out ⟨6, by omega, N.out⟩]
        have KE := dput3 R0 (0) (0) (0)
        have bE := dset3 (x := .int .i64 (0)) (y := .int .i64 (0)) (z := .int .i64 (0)) p0 (show w.heap.size ≤ w.heap.size by omega)
        generalize ((wr.setCell ⟨w.heap.size, 0, none⟩ (.int .i64 (0))).setCell ⟨w.heap.size, 1, none⟩ (.int .i64 (0))).setCell ⟨w.heap.size, 2, none⟩ (.int .i64 (0)) = WE at *
        have z0 := KE.c0
        have z1 := KE.c1
        have z2 := KE.c2
        exact bodyPost_ret (v := .tuple #[.agg #[.int .i64 0, .int .i64 0, .int .i64 0], .int .i64 2]) (by simp [results, Tryd.results8, go_sem, z0, z1, z2]) rfl ⟨rfl, bE⟩
      by_cases b2 : 57 < bt s 6
      · have bi0 : (48 : Int) ≤ (s[6].toNat : Int) := by rw [← B]; omega
        have bi : (57 : Int) < (s[6].toNat : Int) := by rw [← B]; omega
        have N : Hid (okb s 6 = false) := by show _ = _; unfold okb dgt; rw [if_neg (by omega)]; simp; omega
        have r0 := R0.c0
        have r1 := R0.c1
        have r2 := R0.c2
        have f0 := R0.free 0
        have f1 := R0.free 1
        have f2 := R0.free 2
        clear B b1 b2
        go_wp2_with fail
        rw [HR.out ⟨6, by omega, N.out⟩]
        have KE := dput3 R0 (0) (0) (0)
        have bE := dset3 (x := .int .i64 (0)) (y := .int .i64 (0)) (z := .int .i64 (0)) p0 (show w.heap.size ≤ w.heap.size by omega)
        generalize ((wr.setCell ⟨w.heap.size, 0, none⟩ (.int .i64 (0))).setCell ⟨w.heap.size, 1, none⟩ (.int .i64 (0))).setCell ⟨w.heap.size, 2, none⟩ (.int .i64 (0)) = WE at *
        have z0 := KE.c0
        have z1 := KE.c1
        have z2 := KE.c2
        exact bodyPost_ret (v := .tuple #[.agg #[.int .i64 0, .int .i64 0, .int .i64 0], .int .i64 2]) (by simp [results, Tryd.results8, go_sem, z0, z1, z2]) rfl ⟨rfl, bE⟩
      · have bi : (48 : Int) ≤ (s[6].toNat : Int) := by rw [← B]; omega
        have bi2 : (s[6].toNat : Int) ≤ 57 := by rw [← B]; omega
        have N : Hid (∀ j, j < 6 + 1 → okb s j = true) := fun j hj => by
          by_cases c : j = 6
          · subst c; unfold okb dgt; rw [if_neg (by omega)]; simp; omega
          · exact hd.out j (by omega)
        obtain ⟨O, hO⟩ : ∃ O, nv s 5 6 = O := ⟨_, rfl⟩
        have nb := nv_bd s 5 6 4 (by omega) (fun j j1 j2 => by have := hd.out j (by omega); unfold okb dgt at this; rw [if_neg (by omega)] at this; simpa using this) (by omega) (by omega)
        rw [hO] at nb
        have nb2 : O < 10000 := by have := nb.2; omega
        have nb1 := nb.1
        have E : Hid (nv s 5 (6 + 1) = O * 10 + ((s[6].toNat : Int) - 48)) := by have q := nv_more s 5 6 (by omega) (by omega) (by omega); rw [hO, B] at q; exact q
        have u1 : IntKind.u8.wrap ((s[6].toNat : Int) - 48) = (s[6].toNat : Int) - 48 := by simp [IntKind.wrap, IntKind.bits, IntKind.signed]; omega
        have u2 : IntKind.i64.wrap (O * 10) = O * 10 := wrapI _ (by omega) (by omega)
        have u3 : IntKind.i64.wrap ((s[6].toNat : Int) - 48) = (s[6].toNat : Int) - 48 := wrapI _ (by omega) (by omega)
        have u4 : IntKind.i64.wrap (O * 10 + ((s[6].toNat : Int) - 48)) = O * 10 + ((s[6].toNat : Int) - 48) := wrapI _ (by omega) (by omega)
        have x0 : wr.cell? ⟨w.heap.size + 1, 1, none⟩ = some (.int .i64 O) := by rw [← hO]; exact X.at 1
        have x1 := X.free 1
        have X2 : Hid (Blk (wr.setCell ⟨w.heap.size + 1, 1, none⟩ (.int .i64 (O * 10 + ((s[6].toNat : Int) - 48)))) (w.heap.size + 1) #[.int .i64 (nv s 0 (min 7 4)), .int .i64 (nv s 5 (max 5 (min 7 7))), .int .i64 (nv s 8 (max 8 7))] 47) := by
          have := dput X 1 (.int .i64 (O * 10 + ((s[6].toNat : Int) - 48)))
          rw [← E.out] at this ⊢
          exact this
        have R2 : Hid _ := dskip R0 (show w.heap.size + 1 ≠ w.heap.size by omega) 1 (.int .i64 (O * 10 + ((s[6].toNat : Int) - 48)))
        have P2 : Hid _ := p0.setCell (p := ⟨w.heap.size + 1, 1, none⟩) (show w.heap.size ≤ w.heap.size + 1 by omega) (.int .i64 (O * 10 + ((s[6].toNat : Int) - 48)))
        clear B b1 b2 hO nb
        go_wp2_with fail
        go_region
        all_goals
          go_wp2_with fail
          go_roundw
          case rel => exact ⟨6 + 1, by omega, by go_num, rfl, N, X2.out, R2.out, ⟨P2.out.os, P2.out.tape, P2.out.output, P2.out.size, P2.out.block⟩⟩
          case measure => simp [RowKit.intOf]
    · have B := bt_in (s := s) (i := 7) (by omega)
      rw [show kx 7 = 1 from rfl]
      by_cases b : bt s 7 = 45
      · have bi : (s[7].toNat : Int) = 45 := by rw [← B, b]; rfl
        have N : Hid (∀ j, j < 7 + 1 → okb s j = true) := fun j hj => by
          by_cases c : j = 7
          · subst c; unfold okb; rw [if_pos (by omega), decide_eq_true b]
          · exact hd.out j (by omega)
        clear B b
        go_wp2_with fail
        go_roundw
        case rel => exact ⟨7 + 1, by omega, by go_num, rfl, N, X, R0, p0⟩
        case measure => simp [RowKit.intOf]
      · have bn : ¬ (s[7].toNat : Int) = 45 := by rw [← B]; omega
        have N : Hid (okb s 7 = false) := by show _ = _; unfold okb; rw [if_pos (by omega), decide_eq_false b]
        have r0 := R0.c0
        have r1 := R0.c1
        have r2 := R0.c2
        have f0 := R0.free 0
        have f1 := R0.free 1
        have f2 := R0.free 2
        clear B b
        go_wp2_with fail
        rw [HR.out ⟨7, by omega, N.out⟩]
        have KE := dput3 R0 (0) (0) (0)
        have bE := dset3 (x := .int .i64 (0)) (y := .int .i64 (0)) (z := .int .i64 (0)) p0 (show w.heap.size ≤ w.heap.size by omega)
        generalize ((wr.setCell ⟨w.heap.size, 0, none⟩ (.int .i64 (0))).setCell ⟨w.heap.size, 1, none⟩ (.int .i64 (0))).setCell ⟨w.heap.size, 2, none⟩ (.int .i64 (0)) = WE at *
        have z0 := KE.c0
        have z1 := KE.c1
        have z2 := KE.c2
        exact bodyPost_ret (v := .tuple #[.agg #[.int .i64 0, .int .i64 0, .int .i64 0], .int .i64 2]) (by simp [results, Tryd.results8, go_sem, z0, z1, z2]) rfl ⟨rfl, bE⟩
    · have B := bt_in (s := s) (i := 8) (by omega)
      rw [show kx 8 = 2 from rfl]
      by_cases b1 : bt s 8 < 48
      · have bi : (s[8].toNat : Int) < 48 := by rw [← B]; omega
        have N : Hid (okb s 8 = false) := by show _ = _; unfold okb dgt; rw [if_neg (by omega)]; simp; omega
        have r0 := R0.c0
        have r1 := R0.c1
        have r2 := R0.c2
        have f0 := R0.free 0
        have f1 := R0.free 1
        have f2 := R0.free 2
        clear B b1
        go_wp2_with fail
        rw [HR.out ⟨8, by omega, N.out⟩]
        have KE := dput3 R0 (0) (0) (0)
        have bE := dset3 (x := .int .i64 (0)) (y := .int .i64 (0)) (z := .int .i64 (0)) p0 (show w.heap.size ≤ w.heap.size by omega)
        generalize ((wr.setCell ⟨w.heap.size, 0, none⟩ (.int .i64 (0))).setCell ⟨w.heap.size, 1, none⟩ (.int .i64 (0))).setCell ⟨w.heap.size, 2, none⟩ (.int .i64 (0)) = WE at *
        have z0 := KE.c0
        have z1 := KE.c1
        have z2 := KE.c2
        exact bodyPost_ret (v := .tuple #[.agg #[.int .i64 0, .int .i64 0, .int .i64 0], .int .i64 2]) (by simp [results, Tryd.results8, go_sem, z0, z1, z2]) rfl ⟨rfl, bE⟩
      by_cases b2 : 57 < bt s 8
      · have bi0 : (48 : Int) ≤ (s[8].toNat : Int) := by rw [← B]; omega
        have bi : (57 : Int) < (s[8].toNat : Int) := by rw [← B]; omega
        have N : Hid (okb s 8 = false) := by show _ = _; unfold okb dgt; rw [if_neg (by omega)]; simp; omega
        have r0 := R0.c0
        have r1 := R0.c1
        have r2 := R0.c2
        have f0 := R0.free 0
        have f1 := R0.free 1
        have f2 := R0.free 2
        clear B b1 b2
        go_wp2_with fail
        rw [HR.out ⟨8, by omega, N.out⟩]
        have KE := dput3 R0 (0) (0) (0)
        have bE := dset3 (x := .int .i64 (0)) (y := .int .i64 (0)) (z := .int .i64 (0)) p0 (show w.heap.size ≤ w.heap.size by omega)
        generalize ((wr.setCell ⟨w.heap.size, 0, none⟩ (.int .i64 (0))).setCell ⟨w.heap.size, 1, none⟩ (.int .i64 (0))).setCell ⟨w.heap.size, 2, none⟩ (.int .i64 (0)) = WE at *
        have z0 := KE.c0
        have z1 := KE.c1
        have z2 := KE.c2
        exact bodyPost_ret (v := .tuple #[.agg #[.int .i64 0, .int .i64 0, .int .i64 0], .int .i64 2]) (by simp [results, Tryd.results8, go_sem, z0, z1, z2]) rfl ⟨rfl, bE⟩
      · have bi : (48 : Int) ≤ (s[8].toNat : Int) := by rw [← B]; omega
        have bi2 : (s[8].toNat : Int) ≤ 57 := by rw [← B]; omega
        have N : Hid (∀ j, j < 8 + 1 → okb s j = true) := fun j hj => by
          by_cases c : j = 8
          · subst c; unfold okb dgt; rw [if_neg (by omega)]; simp; omega
          · exact hd.out j (by omega)
        obtain ⟨O, hO⟩ : ∃ O, nv s 8 8 = O := ⟨_, rfl⟩
        have nb := nv_bd s 8 8 4 (by omega) (fun j j1 j2 => by have := hd.out j (by omega); unfold okb dgt at this; rw [if_neg (by omega)] at this; simpa using this) (by omega) (by omega)
        rw [hO] at nb
        have nb2 : O < 10000 := by have := nb.2; omega
        have nb1 := nb.1
        have E : Hid (nv s 8 (8 + 1) = O * 10 + ((s[8].toNat : Int) - 48)) := by have q := nv_more s 8 8 (by omega) (by omega) (by omega); rw [hO, B] at q; exact q
        have u1 : IntKind.u8.wrap ((s[8].toNat : Int) - 48) = (s[8].toNat : Int) - 48 := by simp [IntKind.wrap, IntKind.bits, IntKind.signed]; omega
        have u2 : IntKind.i64.wrap (O * 10) = O * 10 := wrapI _ (by omega) (by omega)
        have u3 : IntKind.i64.wrap ((s[8].toNat : Int) - 48) = (s[8].toNat : Int) - 48 := wrapI _ (by omega) (by omega)
        have u4 : IntKind.i64.wrap (O * 10 + ((s[8].toNat : Int) - 48)) = O * 10 + ((s[8].toNat : Int) - 48) := wrapI _ (by omega) (by omega)
        have x0 : wr.cell? ⟨w.heap.size + 1, 2, none⟩ = some (.int .i64 O) := by rw [← hO]; exact X.at 2
        have x1 := X.free 2
        have X2 : Hid (Blk (wr.setCell ⟨w.heap.size + 1, 2, none⟩ (.int .i64 (O * 10 + ((s[8].toNat : Int) - 48)))) (w.heap.size + 1) #[.int .i64 (nv s 0 (min 9 4)), .int .i64 (nv s 5 (max 5 (min 9 7))), .int .i64 (nv s 8 (max 8 9))] 47) := by
          have := dput X 2 (.int .i64 (O * 10 + ((s[8].toNat : Int) - 48)))
          rw [← E.out] at this ⊢
          exact this
        have R2 : Hid _ := dskip R0 (show w.heap.size + 1 ≠ w.heap.size by omega) 2 (.int .i64 (O * 10 + ((s[8].toNat : Int) - 48)))
        have P2 : Hid _ := p0.setCell (p := ⟨w.heap.size + 1, 2, none⟩) (show w.heap.size ≤ w.heap.size + 1 by omega) (.int .i64 (O * 10 + ((s[8].toNat : Int) - 48)))
        clear B b1 b2 hO nb
        go_wp2_with fail
        go_region
        all_goals
          go_wp2_with fail
          go_roundw
          case rel => exact ⟨8 + 1, by omega, by go_num, rfl, N, X2.out, R2.out, ⟨P2.out.os, P2.out.tape, P2.out.output, P2.out.size, P2.out.block⟩⟩
          case measure => simp [RowKit.intOf]
    · have B := bt_in (s := s) (i := 9) (by omega)
      rw [show kx 9 = 2 from rfl]
      by_cases b1 : bt s 9 < 48
      · have bi : (s[9].toNat : Int) < 48 := by rw [← B]; omega
        have N : Hid (okb s 9 = false) := by show _ = _; unfold okb dgt; rw [if_neg (by omega)]; simp; omega
        have r0 := R0.c0
        have r1 := R0.c1
        have r2 := R0.c2
        have f0 := R0.free 0
        have f1 := R0.free 1
        have f2 := R0.free 2
        clear B b1
        go_wp2_with fail
        rw [HR.out ⟨9, by omega, N.out⟩]
        have KE := dput3 R0 (0) (0) (0)
        have bE := dset3 (x := .int .i64 (0)) (y := .int .i64 (0)) (z := .int .i64 (0)) p0 (show w.heap.size ≤ w.heap.size by omega)
        generalize ((wr.setCell ⟨w.heap.size, 0, none⟩ (.int .i64 (0))).setCell ⟨w.heap.size, 1, none⟩ (.int .i64 (0))).setCell ⟨w.heap.size, 2, none⟩ (.int .i64 (0)) = WE at *
        have z0 := KE.c0
        have z1 := KE.c1
        have z2 := KE.c2
        exact bodyPost_ret (v := .tuple #[.agg #[.int .i64 0, .int .i64 0, .int .i64 0], .int .i64 2]) (by simp [results, Tryd.results8, go_sem, z0, z1, z2]) rfl ⟨rfl, bE⟩
      by_cases b2 : 57 < bt s 9
      · have bi0 : (48 : Int) ≤ (s[9].toNat : Int) := by rw [← B]; omega
        have bi : (57 : Int) < (s[9].toNat : Int) := by rw [← B]; omega
        have N : Hid (okb s 9 = false) := by show _ = _; unfold okb dgt; rw [if_neg (by omega)]; simp; omega
        have r0 := R0.c0
        have r1 := R0.c1
        have r2 := R0.c2
        have f0 := R0.free 0
        have f1 := R0.free 1
        have f2 := R0.free 2
        clear B b1 b2
        go_wp2_with fail
        rw [HR.out ⟨9, by omega, N.out⟩]
        have KE := dput3 R0 (0) (0) (0)
        have bE := dset3 (x := .int .i64 (0)) (y := .int .i64 (0)) (z := .int .i64 (0)) p0 (show w.heap.size ≤ w.heap.size by omega)
        generalize ((wr.setCell ⟨w.heap.size, 0, none⟩ (.int .i64 (0))).setCell ⟨w.heap.size, 1, none⟩ (.int .i64 (0))).setCell ⟨w.heap.size, 2, none⟩ (.int .i64 (0)) = WE at *
        have z0 := KE.c0
        have z1 := KE.c1
        have z2 := KE.c2
        exact bodyPost_ret (v := .tuple #[.agg #[.int .i64 0, .int .i64 0, .int .i64 0], .int .i64 2]) (by simp [results, Tryd.results8, go_sem, z0, z1, z2]) rfl ⟨rfl, bE⟩
      · have bi : (48 : Int) ≤ (s[9].toNat : Int) := by rw [← B]; omega
        have bi2 : (s[9].toNat : Int) ≤ 57 := by rw [← B]; omega
        have N : Hid (∀ j, j < 9 + 1 → okb s j = true) := fun j hj => by
          by_cases c : j = 9
          · subst c; unfold okb dgt; rw [if_neg (by omega)]; simp; omega
          · exact hd.out j (by omega)
        obtain ⟨O, hO⟩ : ∃ O, nv s 8 9 = O := ⟨_, rfl⟩
        have nb := nv_bd s 8 9 4 (by omega) (fun j j1 j2 => by have := hd.out j (by omega); unfold okb dgt at this; rw [if_neg (by omega)] at this; simpa using this) (by omega) (by omega)
        rw [hO] at nb
        have nb2 : O < 10000 := by have := nb.2; omega
        have nb1 := nb.1
        have E : Hid (nv s 8 (9 + 1) = O * 10 + ((s[9].toNat : Int) - 48)) := by have q := nv_more s 8 9 (by omega) (by omega) (by omega); rw [hO, B] at q; exact q
        have u1 : IntKind.u8.wrap ((s[9].toNat : Int) - 48) = (s[9].toNat : Int) - 48 := by simp [IntKind.wrap, IntKind.bits, IntKind.signed]; omega
        have u2 : IntKind.i64.wrap (O * 10) = O * 10 := wrapI _ (by omega) (by omega)
        have u3 : IntKind.i64.wrap ((s[9].toNat : Int) - 48) = (s[9].toNat : Int) - 48 := wrapI _ (by omega) (by omega)
        have u4 : IntKind.i64.wrap (O * 10 + ((s[9].toNat : Int) - 48)) = O * 10 + ((s[9].toNat : Int) - 48) := wrapI _ (by omega) (by omega)
        have x0 : wr.cell? ⟨w.heap.size + 1, 2, none⟩ = some (.int .i64 O) := by rw [← hO]; exact X.at 2
        have x1 := X.free 2
        have X2 : Hid (Blk (wr.setCell ⟨w.heap.size + 1, 2, none⟩ (.int .i64 (O * 10 + ((s[9].toNat : Int) - 48)))) (w.heap.size + 1) #[.int .i64 (nv s 0 (min 10 4)), .int .i64 (nv s 5 (max 5 (min 10 7))), .int .i64 (nv s 8 (max 8 10))] 47) := by
          have := dput X 2 (.int .i64 (O * 10 + ((s[9].toNat : Int) - 48)))
          rw [← E.out] at this ⊢
          exact this
        have R2 : Hid _ := dskip R0 (show w.heap.size + 1 ≠ w.heap.size by omega) 2 (.int .i64 (O * 10 + ((s[9].toNat : Int) - 48)))
        have P2 : Hid _ := p0.setCell (p := ⟨w.heap.size + 1, 2, none⟩) (show w.heap.size ≤ w.heap.size + 1 by omega) (.int .i64 (O * 10 + ((s[9].toNat : Int) - 48)))
        clear B b1 b2 hO nb
        go_wp2_with fail
        go_region
        all_goals
          go_wp2_with fail
          go_roundw
          case rel => exact ⟨9 + 1, by omega, by go_num, rfl, N, X2.out, R2.out, ⟨P2.out.os, P2.out.tape, P2.out.output, P2.out.size, P2.out.block⟩⟩
          case measure => simp [RowKit.intOf]
    · obtain rfl : i = 10 := by omega
      have ry := HY.out hd.out
      have X' : Blk wr (w.heap.size + 1) #[.int .i64 (nv s 0 4), .int .i64 (nv s 5 7), .int .i64 (nv s 8 10)] 47 := X
      clear X HY HR hd
      generalize nv s 0 4 = Y at *
      generalize nv s 5 7 = M at *
      generalize nv s 8 10 = D at *
      have y0 := X'.c0
      have y1 := X'.c1
      have y2 := X'.c2
      cases gd
      · subst ry
        go_wp2_with (first
          | (go_at_call 9; refine (GO _).mono ?_; rintro x w1 ⟨rfl, b1⟩; have R1 := (R0.alloc _).below b1 (R0.alloc _).lt; have p1 := belT (belT p0 (bl _ _)) b1; have r0 := R1.c0; have r1 := R1.c1; have r2 := R1.c2; have f0 := R1.free 0; have f1 := R1.free 1; have f2 := R1.free 2)
          | fail)
        have KE := dput3 R1 (0) (0) (0)
        have bE := dset3 (x := .int .i64 (0)) (y := .int .i64 (0)) (z := .int .i64 (0)) p1 (show w.heap.size ≤ w.heap.size by omega)
        generalize ((w1.setCell ⟨w.heap.size, 0, none⟩ (.int .i64 (0))).setCell ⟨w.heap.size, 1, none⟩ (.int .i64 (0))).setCell ⟨w.heap.size, 2, none⟩ (.int .i64 (0)) = WE at *
        have z0 := KE.c0
        have z1 := KE.c1
        have z2 := KE.c2
        exact bodyPost_ret (v := .tuple #[.agg #[.int .i64 0, .int .i64 0, .int .i64 0], .int .i64 70]) (by simp [results, Tryd.results8, go_sem, z0, z1, z2]) rfl ⟨rfl, bE⟩
      · subst ry
        go_wp2_with (first
          | (go_at_call 9; refine (GO _).mono ?_; rintro x w1 ⟨rfl, b1⟩; have R1 := (R0.alloc _).below b1 (R0.alloc _).lt; have D1 := (Blk.new wr _ _).below b1 (Blk.new wr _ _).lt; have d0 := D1.c0; have d1 := D1.c1; have d2 := D1.c2; have p1 := belT (belT p0 (bl _ _)) b1; have r0 := R1.c0; have r1 := R1.c1; have r2 := R1.c2; have f0 := R1.free 0; have f1 := R1.free 1; have f2 := R1.free 2)
          | fail)
        have KE := dput3 R1 (Y) (M) (D)
        have bE := dset3 (x := .int .i64 (Y)) (y := .int .i64 (M)) (z := .int .i64 (D)) p1 (show w.heap.size ≤ w.heap.size by omega)
        generalize ((w1.setCell ⟨w.heap.size, 0, none⟩ (.int .i64 (Y))).setCell ⟨w.heap.size, 1, none⟩ (.int .i64 (M))).setCell ⟨w.heap.size, 2, none⟩ (.int .i64 (D)) = WE at *
        have z0 := KE.c0
        have z1 := KE.c1
        have z2 := KE.c2
        exact bodyPost_ret (v := .tuple #[.agg #[.int .i64 Y, .int .i64 M, .int .i64 D], .int .i64 0]) (by simp [results, Tryd.results8, go_sem, z0, z1, z2]) rfl ⟨rfl, bE⟩
end Go.Proofs.YthadighbhdekdaaDoor.Dt
