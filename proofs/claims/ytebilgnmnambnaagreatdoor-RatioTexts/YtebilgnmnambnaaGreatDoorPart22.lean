import Derived.Test.YtebilgnmnambnaaGreatDoorPart20

namespace Go.Proofs.YtebilgnmnambnaaGreatDoor
open Go.RowKit Tn
set_option maxRecDepth 100000 in
set_option maxHeartbeats 3200000 in
theorem GCD_any (v1 v2 : Value) (xs ys : List Int) (w : World) (h1 : Rd w v1 xs) (h2 : Rd w v2 ys) (n1 : Nm xs) (n2 : Nm ys) (lx : xs.length ≤ 274877906944) (ly : ys.length ≤ 274877906944) :
    Calls Tryz.prog 103 #[.agg #[v1], .agg #[v2]] w fun e w' => ∃ r zs, e = .returned (.agg #[r]) ∧ Rd w' r zs ∧ Nm zs ∧ val zs = Int.gcd (val xs) (val ys) ∧ Below w.heap.size w w' := by
  have H1 : Hid (Rd w v1 xs) := h1
  have H2 : Hid (Rd w v2 ys) := h2
  obtain ⟨a1, m1, c1, rfl⟩ := h1.shape
  obtain ⟨a2, m2, c2, rfl⟩ := h2.shape
  clear h1 h2
  have pr : Below w.heap.size w (((w.alloc (.cells #[.slice a1 m1 c1] 65)).alloc (.cells #[.slice a2 m2 c2] 65)).alloc (.cells #[.slice none 0 0] 65)) := (((Below.refl _ _).alloc (Nat.le_refl _) _).alloc (by simp) _).alloc (by simp; omega) _
  go_enter Tryz.func103, Tryz.ntmps103
  go_upto_if 13 with (go_at_call 86; refine (Cmp_any _ _ xs ys _ (H1.out.grow pr) (H2.out.grow pr) n1 n2 (by omega)).mono ?_; rintro e w1 ⟨rfl, hb⟩; have X0 := (((Bx.new w _ _).alloc _).alloc _).below hb; have X1 := ((Bx.new _ _ _).alloc _).below hb; have X2 := (Bx.new _ _ _).below hb; simp only [World.size_alloc] at X1 X2)
  have p1 := pr.trans (hb.mono pr.size)
  have r1 : Hid (Rd w1 (.slice a1 m1 c1) xs) := H1.out.grow p1
  have r2 : Hid (Rd w1 (.slice a2 m2 c2) ys) := H2.out.grow p1
  go_cut [] (fun wc => St w.heap.size (Int.gcd (val xs) (val ys)) 274877906944 false w wc)
  case first =>
    have x0 := X0.1; have x0' := X0.2; have x1 := X1.1; have x1' := X1.2
    by_cases c : val xs < val ys
    · have hc : cmp3 (val xs) (val ys) < 0 := by rw [cmp3_lt c]; omega
      have C : Hid (val xs < val ys) := c
      clear c
      go_wp2
      go_meet
      case rel =>
        have P := put2 X0 X1 X2 (.slice a2 m2 c2) (.slice a1 m1 c1)
        exact ⟨_, _, _, _, _, _, ys, xs, P.1, P.2.1, P.2.2.1, P.2.2.2.1 _ _ r2.out, P.2.2.2.1 _ _ r1.out, n2, n1, Int.le_of_lt C.out, Int.gcd_comm _ _, ly, fun h => by simp at h, P.2.2.2.2.1 _ _ (Nat.le_refl _) p1⟩
    · have hc : 0 ≤ cmp3 (val xs) (val ys) := cmp3_ge (by omega)
      have C : Hid (val ys ≤ val xs) := by show _ ≤ _; omega
      clear c
      go_wp2
      go_meet
      case rel => exact ⟨_, _, _, _, _, _, xs, ys, X0, X1, X2, r1.out, r2.out, n1, n2, C.out, rfl, lx, fun h => by simp at h, p1⟩
  case rest =>
    generalize hGG : Int.gcd (val xs) (val ys) = G at *
    have HG : Hid (Int.gcd (val xs) (val ys) = G) := hGG
    clear hGG
    clear r1 r2 X0 X1 X2 p1 hb pr H1 H2
    have hcut' : St w.heap.size G 274877906944 false w wc := hcut
    clear hcut
    obtain ⟨a1, l1, c1, a2, l2, c2, A, B, Y0, Y1, Y2, rA, rB, nA, nB, vAB, hG, lA, -, pb⟩ := hcut'
    have lAB := len_mono rA.1 rB.1 nB vAB
    have Q : Hid (Int.gcd (val A) (val B) = G ∧ val B ≤ val A) := ⟨hG, vAB⟩
    have RA : Hid (Rd wc (.slice a1 l1 c1) A) := rA
    have RB : Hid (Rd wc (.slice a2 l2 c2) B) := rB
    obtain ⟨wA, _, _, e, _, _, gA⟩ := rA
    simp only [Value.slice.injEq] at e
    obtain ⟨rfl, rfl, rfl⟩ := e
    obtain ⟨wB, _, _, e, _, _, gB⟩ := rB
    simp only [Value.slice.injEq] at e
    obtain ⟨rfl, rfl, rfl⟩ := e
    have GA : Hid (0 < A.length → ∃ b o, a1 = some ⟨b, o, none⟩ ∧ Cells wc b o A) := gA
    have GB : Hid (0 < B.length → ∃ b o, a2 = some ⟨b, o, none⟩ ∧ Cells wc b o B) := gB
    clear hG vAB gA gB
    have y0 := Y0.1; have y1 := Y1.1
    go_upto_if 19 with fail
    go_cut [] (fun wd => St w.heap.size G 274877906944 true w wd)
    case first =>
      by_cases hl : 1 < B.length
      · go_upto_region 4 with fail
        go_region_with (first
          | (go_at_call_of 154 c1; go_must (refine (copied_all a1 c1 A _ (by omega) (fun l => by obtain ⟨b, o, e, q⟩ := GA.out l; exact ⟨b, o, e, q.drew⟩)).mono ?_; rintro e w2 ⟨g1, rfl, f1, f2, O1, C1, b1⟩; have V1 := Y1.drew.below b1; have v1 := V1.1))
          | (go_at_call_of 154 c2; go_must (refine (copied_all a2 c2 B _ (by omega) (fun l => by obtain ⟨b, o, e, q⟩ := GB.out l; exact ⟨b, o, e, q.drew.grow b1⟩)).mono ?_; rintro e w3 ⟨g2, rfl, f3, f4, O2, C2, b2⟩; have Z0 := (Y0.drew.below b1).below b2; have Z1 := V1.below b2; have Z2 := (Y2.drew.below b1).below b2; have z0 := Z0.1; have z0' := Z0.2; have z1 := Z1.1; have z1' := Z1.2))
          | fail)
        all_goals
          go_wp2_with fail
          go_meet
          case rel =>
            have P := put2 Z0 Z1 Z2 (.slice (some ⟨g1, 0, none⟩) A.length A.length) (.slice (some ⟨g2, 0, none⟩) B.length B.length)
            have ds : wc.drew.heap.size = wc.heap.size := rfl
            have yl := Y2.lt
            have q2 := (pb.drew.trans (b1.mono (by have := pb.size; omega))).trans (b2.mono (by have := pb.size; have := b1.size; omega))
            exact ⟨_, _, _, _, _, _, A, B, P.1, P.2.1, P.2.2.1, P.2.2.2.1 _ _ ⟨wA, _, _, rfl, Nat.le_refl _, by unfold maxLen; omega, fun _ => ⟨_, _, rfl, C1.grow b2⟩⟩, P.2.2.2.1 _ _ ⟨wB, _, _, rfl, Nat.le_refl _, by unfold maxLen; omega, fun _ => ⟨_, _, rfl, C2⟩⟩, nA, nB, Q.out.2, Q.out.1, lA, fun _ _ => ⟨g1, g2, _, _, _, _, rfl, rfl, by omega, by omega, by omega, P.2.2.2.2.2 _ _ (O1.grow b2), P.2.2.2.2.2 _ _ O2⟩, P.2.2.2.2.1 _ _ (Nat.le_refl _) q2⟩
      · go_wp2_with fail
        go_meet
        case rel => exact ⟨_, _, _, _, _, _, A, B, Y0, Y1, Y2, RA.out, RB.out, nA, nB, Q.out.2, Q.out.1, lA, fun _ h => absurd h hl, pb⟩
    case rest =>
      clear y0 y1 Y0 Y1 Y2 RA RB GA GB Q
      go_wp2_with fail
      go_loopw [] (fun wr => St w.heap.size G 274877906944 true w wr) (fun wr => boxNum (w.heap.size + 1) wr)
      case atStart => exact hcut
      case round =>
        clear hcut pb wA wB nA nB lA lAB
        obtain ⟨a1, l1, c1, a2, l2, c2, A, B, Y0, Y1, Y2, rA, rB, nA, nB, vAB, hG, lA, two, pb⟩ := hrel
        have lAB := len_mono rA.1 rB.1 nB vAB
        have MB : Hid _ := boxNum_rd Y1 rB
        have Q : Hid (Int.gcd (val A) (val B) = G ∧ val B ≤ val A) := ⟨hG, vAB⟩
        have RA : Hid (Rd wr (.slice a1 l1 c1) A) := rA
        have RB : Hid (Rd wr (.slice a2 l2 c2) B) := rB
        obtain ⟨wA, _, _, e, kA, kA', gA⟩ := rA
        simp only [Value.slice.injEq] at e
        obtain ⟨rfl, rfl, rfl⟩ := e
        obtain ⟨wB, _, _, e, kB, kB', gB⟩ := rB
        simp only [Value.slice.injEq] at e
        obtain ⟨rfl, rfl, rfl⟩ := e
        have y0 := Y0.1; have y1 := Y1.1
        by_cases hl : 1 < B.length
        · obtain ⟨g1, g2, _, _, _, _, e1, e2, hne, hg1, hg2, O1, O2⟩ := two rfl hl
          simp only [Value.slice.injEq] at e1 e2
          obtain ⟨rfl, rfl, rfl⟩ := e1
          obtain ⟨rfl, rfl, rfl⟩ := e2
          obtain ⟨_, _, e, cA⟩ := gA (by omega)
          simp only [Option.some.injEq, Addr.mk.injEq] at e
          obtain ⟨rfl, rfl, _⟩ := e
          obtain ⟨_, _, e, cB⟩ := gB (by omega)
          simp only [Option.some.injEq, Addr.mk.injEq] at e
          obtain ⟨rfl, rfl, _⟩ := e
          clear hG vAB two gA gB
          go_wp2_with fail
          refine (foresee_any g1 0 g2 0 c1 c2 A.length B.length A B wr rfl rfl wA wB nA (by omega) lAB Q.out.2 (by omega) cA cB).mono ?_
          rintro e w1 ⟨⟨x0, y0', x1, y1', t, rfl, hs, hb⟩, hfar⟩
          have Z0 := Y0.below hb; have Z1 := Y1.below hb; have Z2 := Y2.below hb
          have V0 := Z0.alloc (.cells #[.int .u64 x0, .int .u64 y0', .int .u64 x1, .int .u64 y1', .bool t] 169)
          have V1 := Z1.alloc (.cells #[.int .u64 x0, .int .u64 y0', .int .u64 x1, .int .u64 y1', .bool t] 169)
          have V2 := Z2.alloc (.cells #[.int .u64 x0, .int .u64 y0', .int .u64 x1, .int .u64 y1', .bool t] 169)
          have v0 := V0.1; have v1 := V1.1; have v0' := V0.2; have v1' := V1.2
          have pv : Below wr.heap.size wr (w1.alloc (.cells #[.int .u64 x0, .int .u64 y0', .int .u64 x1, .int .u64 y1', .bool t] 169)) := hb.alloc hb.size _
          by_cases hz : x1 = 0
          · subst hz
            clear hs hfar y0 y1
            go_wp2_with (go_at_call 115; go_must (refine (divmod_long _ _ (some ⟨g1, 0, none⟩) (some ⟨g2, 0, none⟩) c1 c2 A B _ rfl rfl (RA.out.grow pv) (RB.out.grow pv) nA nB Q.out.2 (by omega) (by omega)).mono ?_; rintro e w2 ⟨r1, r2, zs, rs, rfl, hr1, hn1, hr2, hn2, hv, hlt, hfr, hb2⟩; obtain ⟨q1, q2, q3, rfl⟩ := hr1.shape; obtain ⟨q4, q5, q6, rfl⟩ := hr2.shape; have HV : Hid _ := hv; clear hv; have U0 := V0.below hb2; have U1 := V1.below hb2; have U2 := V2.below hb2; have S0 := (U0.alloc (.cells #[.slice q1 q2 q3] 65)).alloc (.cells #[.slice q4 q5 q6] 65); have S1 := (U1.alloc (.cells #[.slice q1 q2 q3] 65)).alloc (.cells #[.slice q4 q5 q6] 65); have S2 := (U2.alloc (.cells #[.slice q1 q2 q3] 65)).alloc (.cells #[.slice q4 q5 q6] 65); have S7 := Bx.new (w2.alloc (.cells #[.slice q1 q2 q3] 65)) (.slice q4 q5 q6) 65; simp only [World.size_alloc] at S7; have s0 := S0.1; have s0' := S0.2; have s1 := S1.1; have s1' := S1.2; have s7 := S7.1))
            have pw2 := hb2.alloc hb2.size (.cells #[.slice q1 q2 q3] 65) |>.alloc (by simp; have := hb2.size; simp at this; omega) (.cells #[.slice q4 q5 q6] 65)
            have P := put2 S0 S1 S2 (.slice (some ⟨g2, 0, none⟩) B.length c2) (.slice q4 q5 q6)
            have RB2 : Hid _ := P.2.2.2.1 _ _ ((RB.out.grow pv).grow pw2)
            have RR2 : Hid _ := P.2.2.2.1 _ _ (hr2.grow (((Below.refl w2.heap.size w2).alloc (Nat.le_refl _) (.cells #[.slice q1 q2 q3] 65)).alloc (by simp) (.cells #[.slice q4 q5 q6] 65)))
            have M2 : Hid _ := boxNum_rd P.2.1.drew (Rd.drew RR2.out)
            have NX : Hid _ := St.drew (show St w.heap.size G 274877906944 true w _ from ⟨_, _, _, _, _, _, B, rs, P.1, P.2.1, P.2.2.1, RB2.out, RR2.out, nB, hn2, Int.le_of_lt hlt, (gcd_of_div HV.out).trans Q.out.1, by omega, fun _ _ => by
              obtain ⟨g, l, k, e, hg, ho, -⟩ := hfr
              have ol := O2.own.lt
              have yl := Y2.lt
              have ps := pv.size
              exact ⟨g2, g, _, _, _, _, rfl, e, by omega, hg2, by omega, P.2.2.2.2.2 _ _ ((O2.grow pv).grow pw2), P.2.2.2.2.2 _ _ (ho.grow (((Below.refl w2.heap.size w2).alloc (Nat.le_refl _) (.cells #[.slice q1 q2 q3] 65)).alloc (by simp) (.cells #[.slice q4 q5 q6] 65)))⟩, P.2.2.2.2.1 _ _ (Nat.le_refl _) ((pb.trans (pv.mono pb.size)).trans (pw2.mono (by have := pb.size; have := pv.size; omega)))⟩)
            have ul := U2.lt
            have m7 : (((w2.alloc (.cells #[.slice q1 q2 q3] 65)).alloc (.cells #[.slice q4 q5 q6] 65)).setCell ⟨w.heap.size, 0, none⟩ (.slice (some ⟨g2, 0, none⟩) B.length c2)).cell? ⟨w2.heap.size + 1, 0, none⟩ = some (.slice q4 q5 q6) := (World.cell?_setCell_other _ _ _ _ (by simp)).trans s7
            go_region
            all_goals
              go_wp2
              go_roundw
              case rel => exact NX.out
              case measure => rw [MB.out, M2.out]; have := val_nonneg hr2.1; omega
          · rcases hs with hs | ⟨p0, q0, p1, q1, B0, BA, AX, BB, GG⟩
            · exact absurd hs hz
            · have l3 : A.length ≤ B.length + 1 := by
                by_cases c : A.length ≤ B.length + 1
                · exact c
                · obtain ⟨_, _, _, _, e⟩ := hfar (by omega); simp at e; exact absurd e.2.2.1 hz
              have F : Hid _ := And.intro BB GG
              have F2 : Hid _ := And.intro B0 (And.intro BA AX)
              have hz' : (x1 == 0) = false := by rw [beq_eq_false_iff_ne]; exact hz
              clear hfar BB GG B0 BA AX y0 y1
              go_wp2_with (go_at_call 156; go_must (refine (apply_all (w.heap.size + 1 + 1 + 1) g1 g2 c1 c2 A B x0 y0' x1 y1' t _ wA wB nA (by omega) lAB l3 (by omega) hne hg1 hg2 (O1.grow pv) (O2.grow pv) kA kB kA' kB' (cA.grow pv) (cB.grow pv) p0 q0 p1 q1 _ _ rfl rfl F2.out.1 F2.out.2.1 F2.out.2.2).mono ?_; rintro e w2 ⟨h1, h2, m1, m2, k1, k2, zs, rs, rfl, hne2, i1, i2, O3, O4, hr1, hn1, hr2, hn2, hv1, hv2, hb2⟩; have HV : Hid _ := And.intro hv1 hv2; clear hv1 hv2; have U0 := V0.under hb2 (by omega); have U1 := V1.under hb2 (by omega); have U2 := V2.under hb2 (by omega); have s0 := U0.1; have s0' := U0.2; have s1 := U1.1; have s1' := U1.2))
              have P := put2 U0 U1 U2 (.slice (some ⟨h1, 0, none⟩) m1 k1) (.slice (some ⟨h2, 0, none⟩) m2 k2)
              have M2 : Hid _ := boxNum_rd P.2.1 (P.2.2.2.1 _ _ hr2)
              have le1 : val rs ≤ val zs := by rw [HV.out.1, HV.out.2]; exact F2.out.2.1
              have le2 : val zs ≤ val A := by rw [HV.out.1]; exact F2.out.2.2
              have lt1 : val rs < val B := by rw [HV.out.2]; exact F.out.1
              have NX : Hid (St w.heap.size G 274877906944 true w _) := ⟨_, _, _, _, _, _, zs, rs, P.1, P.2.1, P.2.2.1, P.2.2.2.1 _ _ hr1, P.2.2.2.1 _ _ hr2, hn1, hn2, le1, by rw [HV.out.1, HV.out.2]; exact F.out.2.trans Q.out.1, by have := len_mono wA hr1.1 hn1 le2; omega, fun _ _ => ⟨h1, h2, _, _, _, _, rfl, rfl, hne2, i1, i2, P.2.2.2.2.2 _ _ O3, P.2.2.2.2.2 _ _ O4⟩, P.2.2.2.2.1 _ _ (Nat.le_refl _) ((pb.trans (pv.mono pb.size)).trans (hb2.mono (by omega)))⟩
              go_roundw
              case rel => exact NX.out
              case measure => rw [MB.out, M2.out]; have := val_nonneg hr2.1; omega
        · clear two hG vAB
          have VA := val_nonneg wA
          by_cases h0 : B.length = 0
          · have := List.eq_nil_of_length_eq_zero h0
            subst this
            clear gA gB
            go_wp2_with fail
            refine (iszero_len a2 _ c2 _).mono ?_
            rintro e w1 ⟨rfl, hb⟩
            have Z0 := Y0.below hb; have Z2 := Y2.below hb
            have z0 := Z0.1; have z2 := Z2.1; have z2' := Z2.2
            have S2 := (Z2.set (.slice a1 A.length c1)).1
            have G0 : Hid (val A = (G : Int)) := by have := Q.out.1; simp only [val] at this; rw [← this]; exact gcd_nought VA
            go_wp2
            refine bodyPost_ret (v := .agg #[.slice a1 A.length c1]) (by simp [results, Tryz.results103, go_sem, S2]) rfl ⟨_, A, rfl, (RA.out.grow hb).box Z2, nA, by rw [HG.out]; exact G0.out, below_put (pb.trans (hb.mono pb.size)) (by omega) _⟩
          · obtain ⟨d, rfl⟩ : ∃ d, B = [d] := List.length_eq_one_iff.1 (by omega)
            obtain ⟨bb, bo, rfl, cB⟩ := gB (by simp)
            have cd : wr.cell? ⟨bb, bo, none⟩ = some (.int .u64 d) := by have := cB 0 (by simp); simpa [nth] using this
            have bl := lt_of_cell cd
            have d0 : 0 < d := by have := nm_top wB nB (by simp); simpa [nth] using this
            have d1 : d < 18446744073709551616 := wB.head.2
            have vd : val [d] = d := by simp [val]
            clear gA gB cB h0
            go_wp2_with fail
            refine (iszero_len (some ⟨bb, bo, none⟩) _ c2 _).mono ?_
            rintro e w1 ⟨rfl, hb⟩
            have Z0 := Y0.below hb; have Z1 := Y1.below hb; have Z2 := Y2.below hb
            have z0 := Z0.1; have z1 := Z1.1
            clear y0 y1
            have VD : Hid _ := vd
            clear vd
            go_wp2_with (go_at_call 115; go_must (refine (DivMod_any _ _ A [d] _ (RA.out.grow hb) (RB.out.grow hb) nA nB (by rw [VD.out]; exact d0) (by omega)).mono ?_; rintro e w2 ⟨r1, r2, zs, rs, rfl, hr1, hn1, hr2, hn2, hv1, hv2, hb2⟩; obtain ⟨q1, q2, q3, rfl⟩ := hr1.shape; obtain ⟨q4, q5, q6, rfl⟩ := hr2.shape; have HV : Hid _ := And.intro hv1 hv2; clear hv1 hv2))
            have S1 := ((Z1.below hb2).alloc (.cells #[.slice q1 q2 q3] 65)).alloc (.cells #[.slice q4 q5 q6] 65)
            have S2 := ((Z2.below hb2).alloc (.cells #[.slice q1 q2 q3] 65)).alloc (.cells #[.slice q4 q5 q6] 65)
            have S9 := Bx.new (w2.alloc (.cells #[.slice q1 q2 q3] 65)) (.slice q4 q5 q6) 65
            simp only [World.size_alloc] at S9
            have pa : Below w2.heap.size w2 ((w2.alloc (.cells #[.slice q1 q2 q3] 65)).alloc (.cells #[.slice q4 q5 q6] 65)) := ((Below.refl w2.heap.size w2).alloc (Nat.le_refl _) _).alloc (by simp) _
            have RR := hr2.grow pa
            have pc := (hb.trans (hb2.mono hb.size)).trans (pa.mono (by have := hb.size; have := hb2.size; omega))
            have c0 := (pc.cell (p := ⟨bb, bo, none⟩) bl).trans cd
            have pd := pb.trans (pc.mono pb.size)
            have ny := nth_bd hr2.1 0
            have gw := gcd_word (y := nth rs 0) d0 d1
            have FG : Hid ((Int.gcd d (nth rs 0) : Int) = G) := by
              have e2 := HV.out.2
              rw [VD.out] at e2
              have lt : val rs < d := by rw [e2]; exact Int.emod_lt_of_pos _ d0
              have q := Q.out.1
              rw [VD.out] at q
              show _ = _
              rw [low_word hr2.1 hn2 (by omega), e2, gcd_rec, q]
            have HRR : Hid _ := RR
            clear RR HV pa pc
            generalize (w2.alloc (.cells #[.slice q1 q2 q3] 65)).alloc (.cells #[.slice q4 q5 q6] 65) = W at *
            have bW := lt_of_cell c0
            have s1 := S1.1; have s2 := S2.1; have s2' := S2.2; have s9 := S9.1
            go_region_with (first
              | (go_at_call 126; go_must (refine (lowest_any _ rs _ (Rd.drew HRR.out) hn2).mono ?_; rintro e w3 ⟨rfl, b3⟩; have T1 := S1.drew.below b3; have t1 := T1.1; have T2 := S2.drew.below b3; have c3 := (b3.cell (p := ⟨bb, bo, none⟩) bW).trans c0))
              | (go_at_call 157; go_must (refine (commonWord_any d (nth rs 0) _ (by omega) d1 ny.1 ny.2).mono ?_; rintro e w4 ⟨rfl, k, rfl⟩))
              | (go_at_call 65; go_must (refine (Of_any (Int.gcd d (nth rs 0)) _ (by omega) gw).mono ?_; rintro e w5 ⟨r, us, rfl, hr, hn, hv, b5⟩; obtain ⟨u1, u2, u3, rfl⟩ := hr.shape; have HU : Hid _ := hv; clear hv; have R2 := (T2.below (below_drewN (Below.refl _ _) k)).below b5; have r2 := R2.1; have r2' := R2.2))
              | fail)
            all_goals
              have E2 := (R2.set (.slice u1 u2 u3)).1
              have ds : W.drew.heap.size = W.heap.size := rfl
              have p3 := pd.drew.trans (b3.mono (by have := pd.size; omega))
              have p4 := below_drewN p3 k
              have p5 := p4.trans (b5.mono p4.size)
              go_wp2
              refine bodyPost_ret (v := .agg #[.slice u1 u2 u3]) (by simp [results, Tryz.results103, go_sem, E2]) rfl ⟨_, us, rfl, hr.box R2, hn, by rw [HG.out]; exact HU.out.trans FG.out, below_put p5 (by omega) _⟩
end Go.Proofs.YtebilgnmnambnaaGreatDoor
