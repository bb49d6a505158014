import Derived.Test.YtcjlpfglnbddjaaDoorMt10
import Derived.Deep.DeepCutAuto
import Derived.Deep.CutBlock
import Derived.Deep.CutRange
namespace Dc
theorem pounds_0 (s : ByteArray) (F T : Nat) (h1 : F ≤ T) (h2 : T ≤ s.size) : ((s.extract F T).toList == [48]) = (decide (T = F + 1) && decide (bt s F = 48)) := by
  have e : (s.extract F T).toList = (s.data.toList.drop F).take (T - F) := by
    rw [Go.ByteArray.toList_eq]
    simp
  rw [e, Bool.eq_iff_iff, beq_iff_eq, Bool.and_eq_true, decide_eq_true_iff, decide_eq_true_iff]
  have hl : s.data.toList.length = s.size := by simp
  constructor
  · intro h
    have l := congrArg List.length h
    rw [List.length_take, List.length_drop] at l
    simp only [List.length_singleton] at l
    have hT : T = F + 1 := by omega
    subst hT
    refine ⟨rfl, ?_⟩
    rw [bt_list (s := s) (i := F) (by omega)]
    have := congrArg (fun x => x.head?) h
    rw [show F + 1 - F = 1 from by omega, List.drop_eq_getElem_cons (by omega)] at this
    simp at this
    simp [this]
  · rintro ⟨rfl, h⟩
    rw [bt_list (s := s) (i := F) (by omega)] at h
    rw [show F + 1 - F = 1 from by omega, List.drop_eq_getElem_cons (by omega)]
    simp
    exact UInt8.toNat_inj.1 h
theorem rd1 {s : ByteArray} (hs : ¬ 65536 < s.size) (h : tw s = fr s ∨ bt s (tw s) ≠ 46) : readS s = (0, (tw s : Int), 2) := by
  have b : beg s = (tw s, false) := by unfold beg; rw [if_pos h]
  unfold readS; rw [if_neg hs, b]; rfl
theorem rd2 {s : ByteArray} (hs : ¬ 65536 < s.size) (h : ¬ (tw s = fr s ∨ bt s (tw s) ≠ 46)) (h1 : dgt s (tw s + 1) = false) : readS s = (0, (tw s : Int) + 1, 2) := by
  have b : beg s = (tw s + 1, false) := by unfold beg; rw [if_neg h, if_pos h1]
  unfold readS; rw [if_neg hs, b]; simp
theorem rd3 {s : ByteArray} (hs : ¬ 65536 < s.size) (h : ¬ (tw s = fr s ∨ bt s (tw s) ≠ 46)) (h1 : dgt s (tw s + 1) = true) (h2 : dgt s (tw s + 2) = false ∨ nought s = true) : readS s = (0, (tw s : Int) + 2, 2) := by
  have b : beg s = (tw s + 2, false) := by unfold beg; rw [if_neg h, if_neg (by rw [h1]; simp), if_pos h2]
  unfold readS; rw [if_neg hs, b]; simp
theorem rd4 {s : ByteArray} (hs : ¬ 65536 < s.size) (h : ¬ (tw s = fr s ∨ bt s (tw s) ≠ 46)) (h1 : dgt s (tw s + 1) = true) (h2 : dgt s (tw s + 2) = true) (h3 : nought s = false) (h4 : tw s + 3 ≠ s.size) : readS s = (0, (tw s : Int) + 3, 2) := by
  have b : beg s = (tw s + 3, false) := by unfold beg; rw [if_neg h, if_neg (by rw [h1]; simp), if_neg (by rw [h2, h3]; simp), decide_eq_false h4]
  unfold readS; rw [if_neg hs, b]; simp
theorem rd5 {s : ByteArray} (h : ¬ (tw s = fr s ∨ bt s (tw s) ≠ 46)) (h1 : dgt s (tw s + 1) = true) (h2 : dgt s (tw s + 2) = true) (h3 : nought s = false) (h4 : tw s + 3 = s.size) : (beg s).2 = true := by
  unfold beg; rw [if_neg h, if_neg (by rw [h1]; simp), if_neg (by rw [h2, h3]; simp), decide_eq_true h4]
theorem rd6 {s : ByteArray} (hs : ¬ 65536 < s.size) (h : (beg s).2 = true) : readS s = if num (digs s) ≤ 1000000000000000 then ((if neg s then -(num (digs s) : Int) else (num (digs s) : Int)), 0, 0) else (0, 0, 6) := by
  unfold readS; rw [if_neg hs, if_neg (by rw [h]; simp)]
theorem join_digs (s : ByteArray) : s.extract (fr s) (tw s) ++ s.extract (tw s + 1) s.size = ⟨(digs s).toArray⟩ := by
  have hl : s.data.toList.length = s.size := by simp
  apply ByteArray.ext
  apply Array.ext'
  unfold digs
  simp only [ByteArray.data_append, ByteArray.data_extract, Array.toList_append, Array.toList_extract]
  rw [List.extract_eq_take_drop, List.extract_eq_take_drop]
  congr 1
  rw [List.take_of_length_le]
  rw [List.length_drop]
  omega
end Dc
namespace Go.Proofs.YtcjlpfglnbddjaaDoor.Mo
open Go.RowKit Go.Lib Dc

def i62 (m : Nat) : Int := if (m : Int) < 4611686018427387904 then (m : Int) else 0
def k62 (m : Nat) : Bool := decide ((m : Int) < 4611686018427387904)
theorem NInt_m (v : Value) (xs : List Int) (m : Nat) (w : World) (h : L.Rd w v xs) (hn : Tl.Nm xs) (hl : xs.length ≤ 1000000000) (hm : Tl.val xs = (m : Int)) :
    Calls Tryd.prog 19 #[v] w fun e w' => e = .returned (.tuple #[.int .i64 (i62 m), .bool (k62 m)]) ∧ w' = w := by
  have := L.NInt_any v xs w h hn hl
  rw [hm] at this
  exact this
theorem i62_lo {m : Nat} (h : m ≤ 1000000000000000) : i62 m = (m : Int) ∧ k62 m = true := by
  unfold i62 k62
  exact ⟨if_pos (by omega), decide_eq_true (by omega)⟩
theorem i62_hi {m : Nat} (h : ¬ m ≤ 1000000000000000) (hk : k62 m = true) : isA (i62 m) = false ∧ isA (-i62 m) = false ∧ 0 ≤ i62 m ∧ i62 m ≤ 9223372036854775807 := by
  unfold k62 at hk
  have h1 := of_decide_eq_true hk
  unfold i62
  rw [if_pos h1]
  refine ⟨?_, ?_, by omega, by omega⟩
  · rcases e : isA (m : Int) with _ | _
    · rfl
    · have := isA_iff.1 e; omega
  · rcases e : isA (-(m : Int)) with _ | _
    · rfl
    · have := isA_iff.1 e; omega
theorem i62_out {m : Nat} (hk : k62 m = false) : i62 m = 0 := by
  unfold k62 at hk
  unfold i62
  exact if_neg (of_decide_eq_false hk)

set_option maxHeartbeats 6400000 in
set_option maxRecDepth 100000 in
theorem rread_short (s : ByteArray) (w : World) (hs : ¬ 65536 < s.size) :
    Calls Tryd.prog 7 #[.string s] w fun e w' => e = .returned (.tuple #[.int .i64 (readS s).1, .int .i64 (readS s).2.1, .int .i64 (readS s).2.2]) ∧ Below w.heap.size w w' := by
  have h1 : ¬ (65536 : Int) < (s.size : Int) := by omega
  generalize hR : readS s = R
  have HR : Hid (readS s = R) := hR
  clear hR
  obtain ⟨g, hg⟩ : ∃ g, neg s = g := ⟨_, rfl⟩
  have HG : Hid (neg s = g) := hg
  clear hg
  obtain ⟨F, hF⟩ : ∃ F, fr s = F := ⟨_, rfl⟩
  have HF : Hid (fr s = F) := hF
  clear hF
  obtain ⟨T, hT⟩ : ∃ T, tw s = T := ⟨_, rfl⟩
  have HT : Hid (tw s = T) := hT
  have f0 : F ≤ s.size := by rw [← HF.out]; exact fr_le s
  have t0 : T ≤ s.size := by rw [← hT]; exact tw_le s
  have t1 : F ≤ T := by rw [← hT, ← HF.out]; exact fr_tw s
  clear hT
  go_enter Tryd.func7, Tryd.ntmps7
  go_upto_region 4 with fail
  go_cut [6] from 13 to 22 (fun v wc => v = .bool g ∧ wc = w)
  case first =>
    have he := empty_iff s
    by_cases h0 : s.size = 0
    · have hn : Hid (g = false) := by show _ = _; rw [← HG.out]; unfold neg; rw [bt_out (by omega)]; decide
      rw [h0] at he
      simp at he
      go_wp2
      go_meet
      case rel => exact ⟨by rw [hn.out], rfl⟩
    · have hp : 0 < s.size := by omega
      have he' : s.toList.isEmpty = false := by rw [he]; simp [h0]
      clear he
      have hb := bt_in hp
      have hn : Hid (((s[0].toNat : Int) == 45) = g) := by
        show _ = _
        rw [← HG.out]
        unfold neg
        rw [hb, Bool.eq_iff_iff, beq_iff_eq, decide_eq_true_iff]
        omega
      clear hb
      go_wp2
      go_meet
      case rel => exact ⟨by rw [hn.out], rfl⟩
  case rest =>
    obtain ⟨rfl, rfl⟩ := hcut
    go_upto_if 23 with fail
    go_cut [5] from 24 to 25 (fun v wd => v = .int .i64 (F : Int) ∧ wd = wc)
    case first =>
      cases g
      · have hf : Hid (F = 0) := by show _ = _; rw [← HF.out]; unfold fr; rw [HG.out]; rfl
        go_wp2
        go_meet
        case rel => exact ⟨by rw [hf.out]; rfl, rfl⟩
      · have hf : Hid (F = 1) := by show _ = _; rw [← HF.out]; unfold fr; rw [HG.out]; rfl
        go_wp2
        go_meet
        case rel => exact ⟨by rw [hf.out]; rfl, rfl⟩
    case rest =>
      obtain ⟨rfl, rfl⟩ := hcut
      go_upto_region 8 with fail
      go_cut [35] from 27 to 34 (fun v we => v = .bool (decide (bt s F = 48)) ∧ we = wc)
      case first =>
        by_cases hl : F < s.size
        · have hb := bt_in hl
          by_cases hd : dgt s F = true
          · have hq : Hid (((s[F].toNat : Int) == 48) = decide (bt s F = 48)) := by
              show _ = _
              rw [hb, Bool.eq_iff_iff, beq_iff_eq, decide_eq_true_iff]
              omega
            clear hb
            go_wp2_with (go_at_call 17; (refine (digit_any s F _).mono ?_); rintro e w1 ⟨rfl, rfl⟩)
            go_meet
            case rel => exact ⟨by rw [hq.out], rfl⟩
          · have hd' : dgt s F = false := by simpa using hd
            have hq : Hid (decide (bt s F = 48) = false) := by
              show _ = _
              rw [decide_eq_false_iff_not]
              intro e
              rw [dgt, e] at hd'
              revert hd'
              decide
            clear hb hd
            go_wp2_with (go_at_call 17; (refine (digit_any s F _).mono ?_); rintro e w1 ⟨rfl, rfl⟩)
            go_meet
            case rel => exact ⟨by rw [hq.out], rfl⟩
        · have hd' : dgt s F = false := by unfold dgt; rw [bt_out (by omega)]; decide
          have hq : Hid (decide (bt s F = 48) = false) := by show _ = _; rw [bt_out (by omega)]; decide
          go_wp2_with (go_at_call 17; (refine (digit_any s F _).mono ?_); rintro e w1 ⟨rfl, rfl⟩)
          go_meet
          case rel => exact ⟨by rw [hq.out], rfl⟩
      case rest =>
        obtain ⟨rfl, rfl⟩ := hcut
        go_upto_if 35 with fail
        obtain ⟨q, hq⟩ : ∃ q, decide (bt s F = 48) = q := ⟨_, rfl⟩
        rw [hq]
        have HQ : Hid (decide (bt s F = 48) = q) := hq
        clear hq
        go_cut [5] from 36 to 42 (fun v wf => v = .int .i64 (T : Int) ∧ wf = wc)
        case first =>
          cases q
          · have hT2 : Hid (T = F + nd s F) := by
              show _ = _
              rw [← HT.out, ← HF.out]; unfold tw
              rw [if_neg]
              have := HQ.out
              rw [decide_eq_false_iff_not] at this
              rw [HF.out]; exact this
            go_wp2_with fail
            go_loop [5] (fun i => ∃ j : Nat, F + j ≤ s.size ∧ i = .int .i64 ((F : Int) + j) ∧ Hid (∀ k, k < j → dgt s (F + k) = true)) (fun i => s.size - (RowKit.intOf i).toNat)
            case atStart => exact ⟨0, by omega, by simp, fun k hk => absurd hk (by omega)⟩
            case round =>
              obtain ⟨j, hj, rfl, hd⟩ := hrel
              have D := fun W => digit_any s (F + j) W
              rw [show ((F + j : Nat) : Int) = (F : Int) + j from by omega] at D
              by_cases hg : dgt s (F + j) = true
              · have l := dgt_lt hg
                have N : Hid (∀ k, k < j + 1 → dgt s (F + k) = true) := fun k hk => by
                  by_cases e : k = j
                  · subst e; exact hg
                  · exact hd.out k (by omega)
                rw [hg] at D
                clear hg
                go_wp2_with (go_at_call 17; (refine (D _).mono ?_); rintro e w1 ⟨rfl, rfl⟩)
                go_round
                case rel => exact ⟨j + 1, by omega, by go_num, N⟩
                case measure => simp [RowKit.intOf]; omega
              · have hg' : dgt s (F + j) = false := by simpa using hg
                have hn : Hid (j = nd s F) := nd_eq hd.out hg'
                rw [hg'] at D
                clear hg hg'
                go_wp2_with (go_at_call 17; (refine (D _).mono ?_); rintro e w1 ⟨rfl, rfl⟩)
                go_meet
                case rel => exact ⟨by rw [hT2.out, ← hn.out]; simp, rfl⟩
          · have hT2 : Hid (T = F + 1) := by
              show _ = _
              rw [← HT.out, ← HF.out]; unfold tw
              rw [if_pos]
              have := HQ.out
              rw [decide_eq_true_iff] at this
              rw [HF.out]; exact this
            go_wp2
            go_meet
            case rel => exact ⟨by rw [hT2.out]; simp, rfl⟩
        case rest =>
          obtain ⟨rfl, rfl⟩ := hcut
          have HX := HR.out
          clear HQ
          by_cases hTF : T = F
          · have R1 := rd1 hs (Or.inl (by rw [HT.out, HF.out]; exact hTF))
            rw [HX, HT.out] at R1
            subst R1
            have c1 : ((T : Int) == (F : Int)) = true := by rw [beq_iff_eq]; omega
            clear HX hTF
            go_wp2
            go_ret3
            exact ⟨rfl, Below.refl _ _⟩
          · have c1 : ((T : Int) == (F : Int)) = false := by rw [beq_eq_false_iff_ne]; omega
            by_cases hTs : T < s.size
            · have hb := bt_in hTs
              by_cases hp : bt s T = 46
              · have HP : Hid (¬ (tw s = fr s ∨ bt s (tw s) ≠ 46)) := by
                  show ¬ _
                  rw [HT.out, HF.out]
                  rintro (e | e)
                  · exact hTF e
                  · exact e hp
                have c2 : ((s[T].toNat : Int) != 46) = false := by
                  have : (s[T].toNat : Int) = 46 := by rw [hb] at hp; omega
                  rw [this]; rfl
                have HN : Hid (nought s = (g && decide (T = F + 1) && decide (bt s F = 48) && decide (bt s (T + 1) = 48) && decide (bt s (T + 2) = 48))) := by
                  show _ = _
                  unfold nought
                  rw [HT.out, HF.out, HG.out]
                have HB1 : Hid (((s.extract F T).toList == [48]) = (decide (T = F + 1) && decide (bt s F = 48))) := pounds_0 s F T t1 t0
                clear hp hb hTF HX
                go_wp2_with fail
                go_loop [5, 9] (fun i k => ∃ n : Nat, n ≤ 2 ∧ i = .int .i64 ((T : Int) + 1 + n) ∧ k = .int .i64 n ∧ Hid ((1 ≤ n → dgt s (T + 1) = true) ∧ (2 ≤ n → dgt s (T + 2) = true ∧ nought s = false))) (fun _ k => 2 - (RowKit.intOf k).toNat)
                case atStart => exact ⟨0, by omega, by simp, rfl, fun h => absurd h (by omega), fun h => absurd h (by omega)⟩
                case round =>
                  obtain ⟨n, hn, rfl, rfl, hd⟩ := hrel
                  obtain rfl | rfl | rfl : n = 0 ∨ n = 1 ∨ n = 2 := by omega
                  · rw [show (T : Int) + 1 + ((0 : Nat) : Int) = (T : Int) + 1 from by simp]
                    have D := fun W => digit_any s (T + 1) W
                    rw [show ((T + 1 : Nat) : Int) = (T : Int) + 1 from by omega] at D
                    obtain ⟨b1, hb1⟩ : ∃ b, ((s.extract F T).toList == [48]) = b := ⟨_, rfl⟩
                    have f1 : (F : Int) ≤ (T : Int) := by omega
                    have f2 : (T : Int) ≤ (s.size : Int) := by omega
                    rcases hd1 : dgt s (T + 1) with _ | _
                    · have R1 := rd2 hs HP.out (by rw [HT.out]; exact hd1)
                      rw [HR.out, HT.out] at R1
                      subst R1
                      rw [hd1] at D
                      clear hd1 HR
                      cases g <;> cases b1
                      all_goals
                        go_wp2_with (go_at_call 17; (refine (D _).mono ?_); rintro e w1 ⟨rfl, rfl⟩)
                        go_ret3
                        exact ⟨rfl, Below.refl _ _⟩
                    · have D1 : Hid (dgt s (T + 1) = true) := hd1
                      rw [hd1] at D
                      clear hd1
                      cases g <;> cases b1
                      all_goals
                        go_wp2_with (go_at_call 17; (refine (D _).mono ?_); rintro e w1 ⟨rfl, rfl⟩)
                        go_round
                        case rel => exact ⟨1, by omega, by go_num, rfl, fun _ => by first | exact D1.out | trivial, fun h => absurd h (by omega)⟩
                        case measure => simp [RowKit.intOf]
                  · rw [show (T : Int) + 1 + ((1 : Nat) : Int) = (T : Int) + 2 from by omega]
                    have D := fun W => digit_any s (T + 2) W
                    rw [show ((T + 2 : Nat) : Int) = (T : Int) + 2 from by omega] at D
                    have D1 : Hid (dgt s (T + 1) = true) := hd.out.1 (by omega)
                    have l1 := dgt_lt D1.out
                    clear hd
                    have f1 : (F : Int) ≤ (T : Int) := by omega
                    have f2 : (T : Int) ≤ (s.size : Int) := by omega
                    have x1 : (T : Int) + 2 - 1 = (T : Int) + 1 := by omega
                    have hb2 := bt_in l1
                    obtain ⟨b1, hb1⟩ : ∃ b, ((s.extract F T).toList == [48]) = b := ⟨_, rfl⟩
                    obtain ⟨b2, hc2⟩ : ∃ b, ((s[T + 1].toNat : Int) == 48) = b := ⟨_, rfl⟩
                    have B1 : Hid ((decide (T = F + 1) && decide (bt s F = 48)) = b1) := by show _ = _; rw [← HB1.out]; exact hb1
                    have B2 : Hid (decide (bt s (T + 1) = 48) = b2) := by
                      show _ = _
                      rw [← hc2, hb2, Bool.eq_iff_iff, beq_iff_eq, decide_eq_true_iff]
                      omega
                    clear hb2
                    by_cases hl2 : T + 2 < s.size
                    · have hb3 := bt_in hl2
                      obtain ⟨b3, hc3⟩ : ∃ b, ((s[T + 2].toNat : Int) == 48) = b := ⟨_, rfl⟩
                      have B3 : Hid (decide (bt s (T + 2) = 48) = b3) := by
                        show _ = _
                        rw [← hc3, hb3, Bool.eq_iff_iff, beq_iff_eq, decide_eq_true_iff]
                        omega
                      have NB : Hid (nought s = (g && b1 && b2 && b3)) := by
                        show _ = _
                        rw [HN.out, ← B1.out, ← B2.out, ← B3.out, Bool.and_assoc g]
                      have hl2' : (T : Int) + 2 < (s.size : Int) := by omega
                      clear hb3 B1 B2 B3 HB1 HN
                      rcases hd2 : dgt s (T + 2) with _ | _
                      · have R1 := rd3 hs HP.out (by rw [HT.out]; exact D1.out) (Or.inl (by rw [HT.out]; exact hd2))
                        rw [HR.out, HT.out] at R1
                        subst R1
                        rw [hd2] at D
                        clear hd2 HR NB
                        cases g <;> cases b1 <;> cases b2 <;> cases b3
                        all_goals
                          go_wp2_with (go_at_call 17; (refine (D _).mono ?_); rintro e w1 ⟨rfl, rfl⟩)
                          go_ret3
                          exact ⟨rfl, Below.refl _ _⟩
                      · have D2 : Hid (dgt s (T + 2) = true) := hd2
                        rw [hd2] at D
                        clear hd2
                        by_cases hnb : (g && b1 && b2 && b3) = true
                        · have R1 := rd3 hs HP.out (by rw [HT.out]; exact D1.out) (Or.inr (by rw [NB.out]; exact hnb))
                          rw [HR.out, HT.out] at R1
                          subst R1
                          simp only [Bool.and_eq_true] at hnb
                          obtain ⟨⟨⟨rfl, rfl⟩, rfl⟩, rfl⟩ := hnb
                          clear HR NB
                          go_wp2_with (go_at_call 17; (refine (D _).mono ?_); rintro e w1 ⟨rfl, rfl⟩)
                          go_ret3
                          exact ⟨rfl, Below.refl _ _⟩
                        · have NF : Hid (nought s = false) := by show _ = _; rw [NB.out]; simpa using hnb
                          clear NB
                          cases g <;> cases b1 <;> cases b2 <;> cases b3
                          all_goals first
                            | (exfalso; exact hnb rfl)
                            | (clear hnb
                               go_wp2_with (go_at_call 17; (refine (D _).mono ?_); rintro e w1 ⟨rfl, rfl⟩)
                               go_round
                               case rel => exact ⟨2, by omega, by go_num, rfl, fun _ => by first | exact D1.out | trivial, fun _ => ⟨by first | exact D2.out | trivial, by first | exact NF.out | trivial⟩⟩
                               case measure => simp [RowKit.intOf])
                    · have hd2 : dgt s (T + 2) = false := by unfold dgt; rw [bt_out (by omega)]; decide
                      have R1 := rd3 hs HP.out (by rw [HT.out]; exact D1.out) (Or.inl (by rw [HT.out]; exact hd2))
                      rw [HR.out, HT.out] at R1
                      subst R1
                      rw [hd2] at D
                      have hl2' : ¬ (T : Int) + 2 < (s.size : Int) := by omega
                      clear hd2 HR B1 B2 HB1 HN
                      cases g <;> cases b1 <;> cases b2
                      all_goals
                        go_wp2_with (go_at_call 17; (refine (D _).mono ?_); rintro e w1 ⟨rfl, rfl⟩)
                        go_ret3
                        exact ⟨rfl, Below.refl _ _⟩
                  · rw [show (T : Int) + 1 + ((2 : Nat) : Int) = (T : Int) + 3 from by omega]
                    have D1 : Hid (dgt s (T + 1) = true) := hd.out.1 (by omega)
                    have D2 : Hid (dgt s (T + 2) = true) := (hd.out.2 (by omega)).1
                    have NF : Hid (nought s = false) := (hd.out.2 (by omega)).2
                    have l2 := dgt_lt D2.out
                    clear hd HN HB1
                    by_cases h3 : T + 3 < s.size
                    · have R1 := rd4 hs HP.out (by rw [HT.out]; exact D1.out) (by rw [HT.out]; exact D2.out) NF.out (by rw [HT.out]; omega)
                      rw [HR.out, HT.out] at R1
                      subst R1
                      clear HR
                      have h3' : (T : Int) + 3 < (s.size : Int) := by omega
                      go_wp2
                      go_ret3
                      exact ⟨rfl, Below.refl _ _⟩
                    · have ok := rd5 HP.out (by rw [HT.out]; exact D1.out) (by rw [HT.out]; exact D2.out) NF.out (by rw [HT.out]; omega)
                      have R1 := rd6 hs ok
                      rw [HR.out, HG.out] at R1
                      have h3' : ¬ (T : Int) + 3 < (s.size : Int) := by omega
                      have J := join_digs s
                      rw [HT.out, HF.out] at J
                      have BR := fun W => L.BRead_any ⟨(digs s).toArray⟩ W (by have := digs_len s; simp only [ByteArray.size, List.size_toArray]; omega) (digs_dg ok)
                      rw [← J] at BR
                      have dl := digs_len s
                      have z1 : (s.extract F T).size ≤ 65536 := by rw [ByteArray.size_extract]; omega
                      have z2 : (s.extract (T + 1) s.size).size ≤ 65536 := by rw [ex_size]; omega
                      obtain ⟨S1, hS1⟩ : ∃ S, s.extract F T = S := ⟨_, rfl⟩
                      obtain ⟨S2, hS2⟩ : ∃ S, s.extract (T + 1) s.size = S := ⟨_, rfl⟩
                      obtain ⟨S3, hS3⟩ : ∃ S, S1 ++ S2 = S := ⟨_, rfl⟩
                      rw [hS1, hS2, hS3] at BR
                      rw [hS1] at z1
                      rw [hS2] at z2
                      have eN : Dc.num S3.data.toList = Dc.num (digs s) := by rw [← hS3, ← hS1, ← hS2, J]
                      have zS : S3.size ≤ 65536 := by rw [← hS3, ← hS1, ← hS2, J]; simp only [ByteArray.size, List.size_toArray]; omega
                      rw [eN] at BR
                      have f1 : (F : Int) ≤ (T : Int) := by omega
                      have f2 : (T : Int) ≤ (s.size : Int) := by omega
                      have f3 : (T : Int) + 1 ≤ (s.size : Int) := by omega
                      have f4 : ((T : Int) + 1).toNat = T + 1 := by omega
                      have f5 : IntKind.i64.wrap ((T : Int) + 1) = (T : Int) + 1 := wrapI _ (by omega) (by omega)
                      have f6 : (0 : Int) ≤ (T : Int) + 1 := by omega
                      generalize Dc.num (digs s) = m at *
                      have HR1 : Hid (R = if m ≤ 1000000000000000 then ((if g = true then -(m : Int) else (m : Int)), 0, 0) else (0, 0, 6)) := R1
                      clear J HR HP HT HF HG D1 D2 NF ok eN dl R1
                      go_wp2_with fail
                      go_upto_region 25 with fail
                      go_cut [11, 12] from 112 to 125 (fun a b wf => a = .int .i64 (i62 m) ∧ b = .bool (k62 m) ∧ Below wc.heap.size wc wf)
                      case first =>
                        clear HR1
                        go_region_with (first
                          | (go_at_call 18; (refine (BR _).mono ?_); rintro e w1 ⟨r1, zs, rfl, hz, nz, vz, lz, b1⟩; have NI := NInt_m r1 zs m w1 hz nz (by omega) vz; clear vz lz)
                          | (go_at_call 19; (refine NI.mono ?_); rintro e w2 ⟨rfl, rfl⟩))
                        all_goals
                          go_wp2_with fail
                          go_meet
                          case rel => exact ⟨rfl, rfl, L.below_undrew b1⟩
                      case rest =>
                        obtain ⟨rfl, rfl, bb⟩ := hcut
                        by_cases h15 : m ≤ 1000000000000000
                        · have hA1 : isA (m : Int) = true := isA_iff.2 (by omega)
                          have hA2 : isA (-(m : Int)) = true := isA_iff.2 (by omega)
                          have R1 := HR1.out
                          rw [if_pos h15] at R1
                          subst R1
                          rw [(i62_lo h15).1, (i62_lo h15).2]
                          clear HR1
                          cases g
                          · go_wp2_with (go_at_call 11; refine (Is_any _ _).mono ?_; rintro e w' ⟨rfl, rfl⟩)
                            go_ret3
                            exact ⟨rfl, bb⟩
                          · go_wp2_with (go_at_call 11; refine (Is_any _ _).mono ?_; rintro e w' ⟨rfl, rfl⟩)
                            go_ret3
                            exact ⟨rfl, bb⟩
                        · have R1 := HR1.out
                          rw [if_neg h15] at R1
                          subst R1
                          clear HR1
                          rcases hk : k62 m with _ | _
                          · rw [i62_out hk]
                            clear hk h15
                            cases g
                            · go_wp2
                              go_ret3
                              exact ⟨rfl, bb⟩
                            · go_wp2
                              go_ret3
                              exact ⟨rfl, bb⟩
                          · obtain ⟨hA1, hA2, n0, n1⟩ := i62_hi h15 hk
                            clear hk h15
                            generalize i62 m = n at *
                            cases g
                            · go_wp2_with (go_at_call 11; refine (Is_any _ _).mono ?_; rintro e w' ⟨rfl, rfl⟩)
                              go_ret3
                              exact ⟨rfl, bb⟩
                            · go_wp2_with (go_at_call 11; refine (Is_any _ _).mono ?_; rintro e w' ⟨rfl, rfl⟩)
                              go_ret3
                              exact ⟨rfl, bb⟩
              · have R1 := rd1 hs (Or.inr (by rw [HT.out]; exact hp))
                rw [HX, HT.out] at R1
                subst R1
                have c2 : ((s[T].toNat : Int) != 46) = true := by rw [bne_iff_ne]; rw [hb] at hp; omega
                clear HX hp hb hTF
                go_wp2
                go_ret3
                exact ⟨rfl, Below.refl _ _⟩
            · have R1 := rd1 hs (Or.inr (by rw [HT.out, bt_out (by omega)]; decide))
              rw [HX, HT.out] at R1
              subst R1
              clear HX hTF
              go_wp2
              go_ret3
              exact ⟨rfl, Below.refl _ _⟩
set_option maxRecDepth 100000 in
theorem RRead_any (s : ByteArray) (w : World) :
    Calls Tryd.prog 7 #[.string s] w fun e w' => e = .returned (.tuple #[.int .i64 (readS s).1, .int .i64 (readS s).2.1, .int .i64 (readS s).2.2]) ∧ Below w.heap.size w w' := by
  by_cases hs : 65536 < s.size
  · have e : readS s = (0, 0, 3) := by unfold readS; rw [if_pos hs]
    rw [e]
    have h1 : (65536 : Int) < (s.size : Int) := by omega
    go_enter Tryd.func7, Tryd.ntmps7
    go_wp2
    go_ret3
    exact ⟨rfl, Below.refl _ _⟩
  · exact rread_short s w hs
end Go.Proofs.YtcjlpfglnbddjaaDoor.Mo
