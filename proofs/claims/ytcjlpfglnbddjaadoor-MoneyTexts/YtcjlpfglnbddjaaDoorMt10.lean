import Derived.Test.YtcjlpfglnbddjaaDoorMt9
namespace Go.Proofs.YtcjlpfglnbddjaaDoor.Mo
open Go.RowKit Go.Lib Dc

theorem Replace_point (s : ByteArray) (hs : s.size ≤ 65536) (h : (beg s).2 = true) (W : World) (G : Gv W) :
    Calls Tryd.prog 15 #[.string s, .string ⟨#[46]⟩, .string ⟨#[]⟩, .int .i64 1] W fun e w' => e = .returned (.string (nop s)) ∧ Below W.heap.size W w' := by
  obtain ⟨m, hm⟩ := G.mx
  refine (Tryd.strings_Replace s ⟨#[46]⟩ ⟨#[]⟩ 1 m W (by omega) hm (by decide) (by rw [show (⟨#[]⟩ : ByteArray).size = 0 from rfl, Nat.mul_zero]; omega)).mono ?_
  rintro e w' ⟨rfl, b⟩
  refine ⟨?_, b⟩
  have : Lib.replace s.data.toList [46] [] 1 = s.data.toList.take (tw s) ++ s.data.toList.drop (tw s + 1) := by
    have e := split_at (beg_ok h).2.1
    have r := replace_point (s.data.toList.take (tw s)) (s.data.toList.drop (tw s + 1)) (no_point s)
    rw [← e] at r
    exact r
  unfold nop
  rw [← this]
theorem Atoi_small (d : List UInt8) (hd : ∀ c ∈ d, Dg c) (ne : d ≠ []) (hl : d.length ≤ 65536) (hn : num d < 9223372036854775808) (W : World) :
    Calls Tryd.prog 16 #[.string ⟨d.toArray⟩] W fun e w' => e = .returned (.tuple #[.int .i64 (num d : Int), .nilIface]) ∧ Below W.heap.size W w' := by
  refine (Tryd.strconv_Atoi_ok ⟨d.toArray⟩ (by simp [ByteArray.size]; omega) (num d : Int) ?_ W).mono ?_
  · show atoiAll d = _
    rw [atoi_digits d hd ne, if_pos hn]
  · rintro e w' ⟨rfl, h⟩
    refine ⟨rfl, ?_⟩
    rcases h with rfl | ⟨t, rfl⟩
    · exact Below.refl _ _
    · exact Lib.bytesWorld_below _ _ _
theorem Atoi_great (d : List UInt8) (hd : ∀ c ∈ d, Dg c) (ne : d ≠ []) (hl : d.length ≤ 65536) (hn : ¬ num d < 9223372036854775808) (W : World) (G : Gv W) :
    Calls Tryd.prog 16 #[.string ⟨d.toArray⟩] W fun e w' => (∃ N, e = .returned (.tuple #[.int .i64 9223372036854775807, .iface 77 (.pointer (some ⟨N, 0, none⟩))])) ∧ Below W.heap.size W w' := by
  obtain ⟨tp, p, hv⟩ := G.er
  refine (Tryd.strconv_Atoi_range_var ⟨d.toArray⟩ (by simp [ByteArray.size]; omega) ?_ tp p W hv).mono ?_
  · show atoiAll d = _
    rw [atoi_digits d hd ne, if_neg hn]
  · rintro e w' ⟨N, rfl, _, _, b⟩
    refine ⟨⟨N, ?_⟩, b⟩
    have : Lib.atoiSat d = 9223372036854775807 := by
      unfold Lib.atoiSat
      rw [if_neg]
      cases d with
      | nil => exact absurd rfl ne
      | cons c r =>
        have := hd c (by simp)
        unfold Dg at this
        simp
        omega
    rw [← this]
theorem Read_any (s : ByteArray) (w : World) (G : Gv w) :
    Calls Tryd.prog 6 #[.string s] w fun e w' => e = .returned (.tuple #[.int .i64 (readS s).1, .agg #[.int .i64 (readS s).2.1, .int .i64 (readS s).2.2]]) ∧ Below w.heap.size w w' := by
  by_cases hs : 65536 < s.size
  · have e : readS s = (0, 0, 3) := by unfold readS; rw [if_pos hs]
    rw [e]
    exact read_long s w hs
  · have B := fun W => begin_any s W (by omega)
    rcases hb : (beg s).2 with _ | _
    · have e : readS s = (0, ((beg s).1 : Int), 2) := by unfold readS; rw [if_neg hs, if_pos hb]
      rw [e]
      simp only [hb] at B
      exact read_form s _ w hs B
    · simp only [hb] at B
      have e : readS s = if num (digs s) ≤ 1000000000000000 then ((if neg s then -(num (digs s) : Int) else (num (digs s) : Int)), 0, 0) else (0, 0, 6) := by
        unfold readS; rw [if_neg hs, if_neg (by rw [hb]; simp)]
      have R := fun W G => Replace_point s (by omega) hb W G
      have C := fun W => CutSign_any (nop s) W (by have := nop_size s; omega)
      simp only [nop_neg hb, nop_rest hb] at C
      have dd := digs_dg hb
      have dn := digs_ne hb
      have dl := digs_len s
      by_cases h15 : num (digs s) ≤ 1000000000000000
      · rw [if_pos h15] at e
        rw [e]
        have hA : isA (num (digs s) : Int) = true := isA_iff.2 (by omega)
        have A := fun W (_ : Gv W) => Atoi_small (digs s) dd dn (by omega) (by omega) W
        rcases hn : neg s with _ | _
        · simp only [hn] at C
          exact read_pos s (nop s) _ _ (num (digs s) : Int) w hs hA B R C A G
        · simp only [hn] at C
          exact read_neg s (nop s) _ _ (num (digs s) : Int) w hs hA B R C A G
      · rw [if_neg h15] at e
        rw [e]
        by_cases h63 : num (digs s) < 9223372036854775808
        · have A := fun W (_ : Gv W) => Atoi_small (digs s) dd dn (by omega) h63 W
          have hA : isA (num (digs s) : Int) = false := by
            rcases h : isA (num (digs s) : Int) with _ | _
            · rfl
            · have := isA_iff.1 h; omega
          exact read_big s (nop s) _ _ (neg s) (num (digs s) : Int) w hs hA B R C A G
        · have A := fun W G => Atoi_great (digs s) dd dn (by omega) h63 W G
          exact read_range s (nop s) _ _ (neg s) 9223372036854775807 w hs B R C A G
end Go.Proofs.YtcjlpfglnbddjaaDoor.Mo
