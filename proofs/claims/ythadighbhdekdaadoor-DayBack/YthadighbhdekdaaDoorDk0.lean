import Derived.Test.YthadighbhdekdaaDoorDk3
import Derived.Test.YthadighbhdekdaaDoorDu3
namespace Go.Proofs.YthadighbhdekdaaDoor.Dt
open Go.RowKit Go.Lib Go.Proofs.YthadighbhdekdaaDoor.Dy Dc
/-- The bytes from a up to b. -/
def cutL (s : ByteArray) (a b : Nat) : List UInt8 := (s.data.toList.drop a).take (b - a)
theorem size_list (s : ByteArray) : s.size = s.data.toList.length := by rw [Array.length_toList]; rfl
theorem ext_bs (s : ByteArray) (a b : Nat) : s.extract a b = bs (cutL s a b) := by
  apply ByteArray.ext
  rw [ByteArray.data_extract]
  apply Array.ext'
  rw [Array.toList_extract]
  simp [bs, cutL, List.extract]
theorem cut_len {s : ByteArray} {a b : Nat} (h : b ≤ s.size) : (cutL s a b).length = b - a := by
  have := size_list s
  unfold cutL; simp; omega
theorem cut_dg {s : ByteArray} {a b : Nat} (h : b ≤ s.size) (hd : ∀ j, a ≤ j → j < b → okb s j = true) (h4 : ∀ j, a ≤ j → j < b → ¬ (j = 4 ∨ j = 7)) : ∀ c ∈ cutL s a b, Dg c := by
  intro c hc
  have l := cut_len (s := s) (a := a) h
  unfold cutL at hc l
  obtain ⟨i, hi, rfl⟩ := List.getElem_of_mem hc
  have hi' : i < b - a := by rw [l] at hi; exact hi
  have sl := size_list s
  have q := hd (a + i) (by omega) (by omega)
  unfold okb dgt at q
  rw [if_neg (h4 _ (by omega) (by omega)), decide_eq_true_iff, bt_in (by omega)] at q
  simp only [List.getElem_take, List.getElem_drop]
  exact q
theorem nv_cut (s : ByteArray) (a b : Nat) : nv s a b = (Dc.num (cutL s a b) : Int) := rfl
theorem hf_iff {s : ByteArray} : hf s = true ↔ s.size = 10 ∧ ∀ j, j < 10 → okb s j = true := by
  unfold hf
  rw [Bool.and_eq_true, decide_eq_true_iff]
  constructor
  · rintro ⟨h, k⟩
    exact ⟨h, fun j hj => List.all_eq_true.1 k j (List.mem_range.2 hj)⟩
  · rintro ⟨h, k⟩
    exact ⟨h, hf_yes k⟩
theorem dOf (s : ByteArray) (a b : Nat) (h : hf s = true) (hb : b ≤ 10) (hab : a < b) (h4 : ∀ j, a ≤ j → j < b → ¬ (j = 4 ∨ j = 7)) (W : World) :
    Calls Tryd.prog 22 #[.string (s.extract a b)] W fun e w' => e = .returned (.int .i64 (nv s a b)) ∧ Below W.heap.size W w' := by
  obtain ⟨h1, h2⟩ := hf_iff.1 h
  rw [ext_bs, nv_cut]
  refine digitsOf_any (cutL s a b) (cut_dg (by omega) (fun j _ j2 => h2 j (by omega)) h4) ?_ (by rw [cut_len (by omega)]; omega) W
  intro z
  have := cut_len (s := s) (a := a) (b := b) (by omega)
  rw [z] at this
  simp at this
  omega
set_option maxHeartbeats 800000 in
set_option maxRecDepth 100000 in
theorem Parse_long (s : ByteArray) (w : World) (h : s.size > 65536) : Calls Tryd.prog 7 #[.string s] w fun e w' => e = .returned (.tuple #[dt 0 0 0, .int .i64 3]) ∧ Below w.heap.size w w' := by
  have h' : (65536 : Int) < (s.size : Int) := by omega
  unfold dt
  go_enter Tryd.func7, Tryd.ntmps7
  go_wp2_with fail
  exact bodyPost_ret (v := .tuple #[.agg #[.int .i64 0, .int .i64 0, .int .i64 0], .int .i64 3]) (by simp [results, Tryd.results7, go_sem]) rfl ⟨rfl, bl _ _⟩
set_option maxHeartbeats 800000 in
set_option maxRecDepth 100000 in
theorem Parse_form (s : ByteArray) (w : World) (h : ¬ s.size > 65536) (k : hf s = false) : Calls Tryd.prog 7 #[.string s] w fun e w' => e = .returned (.tuple #[dt 0 0 0, .int .i64 2]) ∧ Below w.heap.size w w' := by
  have h' : ¬ (65536 : Int) < (s.size : Int) := by omega
  have HF := hasForm_any s
  rw [k] at HF
  have R0 := Blk.new w #[.int .i64 0, .int .i64 0, .int .i64 0] 23
  have p0 := bl (w := w) #[.int .i64 0, .int .i64 0, .int .i64 0] 23
  unfold dt
  go_enter Tryd.func7, Tryd.ntmps7
  go_wp2_with (first
    | (go_at_call 21; refine (HF _).mono ?_; rintro x w0 ⟨rfl, q, rfl⟩)
    | fail)
  have R1 : Blk ((w.alloc (.cells #[.int .i64 0, .int .i64 0, .int .i64 0] 23)).drewN q) w.heap.size #[.int .i64 0, .int .i64 0, .int .i64 0] 23 := R0
  have p1 := blN (n := q) p0
  clear R0 p0
  generalize (w.alloc (.cells #[.int .i64 0, .int .i64 0, .int .i64 0] 23)).drewN q = V at *
  have KE := dput3 R1 0 0 0
  have bE := dset3 (x := .int .i64 0) (y := .int .i64 0) (z := .int .i64 0) p1 (Nat.le_refl _)
  generalize ((V.setCell ⟨w.heap.size, 0, none⟩ (.int .i64 0)).setCell ⟨w.heap.size, 1, none⟩ (.int .i64 0)).setCell ⟨w.heap.size, 2, none⟩ (.int .i64 0) = WE at *
  have z0 := KE.c0
  have z1 := KE.c1
  have z2 := KE.c2
  exact bodyPost_ret (v := .tuple #[.agg #[.int .i64 0, .int .i64 0, .int .i64 0], .int .i64 2]) (by simp [results, Tryd.results7, go_sem, z0, z1, z2]) rfl ⟨rfl, bE⟩
theorem Parse_any (s : ByteArray) (w : World) (G : Gl w) : Calls Tryd.prog 7 #[.string s] w fun e w' => e = .returned (psR s) ∧ Below w.heap.size w w' := by
  unfold psR
  by_cases h : s.size > 65536
  · rw [if_pos h]; exact Parse_long s w h
  rw [if_neg h]
  cases k : hf s
  · exact Parse_form s w h k
  obtain ⟨h1, h2⟩ := hf_iff.1 k
  have HF := hasForm_any s
  rw [k] at HF
  have CH := Check_any (nv s 0 4) (nv s 5 7) (nv s 8 10)
  rw [if_pos rfl]
  cases g : good (nv s 0 4) (nv s 5 7) (nv s 8 10)
  · rw [g] at CH
    exact Parse_no s _ _ _ _ _ _ w G h1 rfl rfl rfl HF (dOf s 0 4 k (by omega) (by omega) (by omega)) (dOf s 5 7 k (by omega) (by omega) (by omega)) (dOf s 8 10 k (by omega) (by omega) (by omega)) CH
  · rw [g] at CH
    exact Parse_ok s _ _ _ _ _ _ w G h1 rfl rfl rfl HF (dOf s 0 4 k (by omega) (by omega) (by omega)) (dOf s 5 7 k (by omega) (by omega) (by omega)) (dOf s 8 10 k (by omega) (by omega) (by omega)) CH
/-- What is read of a text. -/
theorem ps_cases (s : ByteArray) : (∃ Y M D, psR s = .tuple #[dt Y M D, .int .i64 0] ∧ good Y M D = true ∧ s = bs (txt Y M D)) ∨ (∃ E, psR s = .tuple #[dt 0 0 0, .int .i64 E] ∧ (E == 0) = false) := by
  unfold psR
  by_cases h : s.size > 65536
  · rw [if_pos h]; exact Or.inr ⟨3, rfl, rfl⟩
  rw [if_neg h]
  cases k : hf s
  · exact Or.inr ⟨2, rfl, rfl⟩
  rw [if_pos rfl]
  cases g : good (nv s 0 4) (nv s 5 7) (nv s 8 10)
  · exact Or.inr ⟨70, rfl, rfl⟩
  · obtain ⟨h1, h2⟩ := hf_iff.1 k
    exact Or.inl ⟨_, _, _, rfl, g, txt_ps h1 h2⟩
theorem less_asym : ∀ (x y : List UInt8), Op.bytesLess x y = true → Op.bytesLess y x = false ∧ (y == x) = false
  | _, [] => fun h => by simp [Op.bytesLess] at h
  | [], b :: y => fun _ => ⟨by simp [Op.bytesLess], by rfl⟩
  | a :: x, b :: y => fun h => by
    rw [Op.bytesLess, Bool.or_eq_true, decide_eq_true_iff, Bool.and_eq_true, beq_iff_eq] at h
    rcases h with h | ⟨rfl, h⟩
    · have h' := UInt8.lt_iff_toNat_lt.1 h
      refine ⟨?_, ?_⟩
      · rw [Op.bytesLess, Bool.or_eq_false_iff, Bool.and_eq_false_iff]
        refine ⟨decide_eq_false fun z => ?_, Or.inl ?_⟩
        · have := UInt8.lt_iff_toNat_lt.1 z; omega
        · rw [beq_eq_false_iff_ne]; intro z; rw [z] at h'; omega
      · rw [beq_eq_false_iff_ne]; intro z; cases z; omega
    · obtain ⟨i, j⟩ := less_asym x y h
      refine ⟨by rw [less_same]; exact i, ?_⟩
      rw [beq_eq_false_iff_ne] at j ⊢
      intro z; cases z; exact j rfl
theorem bs_toList (l : List UInt8) : (bs l).toList = l := by
  rw [ByteArray.toList_eq]
  rfl
theorem back_law (y m d : Int) (s : ByteArray) (w : World) (G : Gt w) : Calls Tryd.prog 4 #[dt y m d, .string s] w fun x w' => x = .returned (.bool true) ∧ Below w.heap.size w w' := by
  have WK := fun W (GW : Gt W) => works_any W GW.2
  have P1 := fun W (GW : Gt W) => Parse_any s W GW.2
  have R2 := fun W (GW : Gt W) => right_any y m d W GW.2
  have go : (∀ kk : Bool, good y m d = kk → True) := fun _ _ => trivial
  clear go
  have key : good y m d = true → (∃ N T, (∀ W, Gt W → Calls Tryd.prog 13 #[dt y m d] W fun x w' => x = .returned (.tuple #[.int .i64 N, .int .i64 0]) ∧ Below W.heap.size W w') ∧ (∀ W, Gt W → Calls Tryd.prog 14 #[.int .i64 N] W fun x w' => x = .returned (.tuple #[dt y m d, .int .i64 0]) ∧ Below W.heap.size W w') ∧ N = num y m d ∧ T = bs (txt y m d)) := fun g => by
    refine ⟨num y m d, _, fun W GW => ?_, fun W GW => ?_, rfl, rfl⟩
    · have q := Number_any y m d W GW.2
      rw [g, if_pos rfl] at q
      exact q
    · have q := FromNumber_any (num y m d) W GW.2
      obtain ⟨f1, f2, f3⟩ := fr_num g
      rw [nr_num g, f1, f2, f3] at q
      exact q
  cases g : good y m d
  · rw [g] at R2
    rcases ps_cases s with ⟨Y, M, D, e, k, es⟩ | ⟨E, e, k⟩
    · rw [e] at P1
      have T1 := fun W (GW : Gt W) => Text_any Y M D W GW k
      rw [← es] at T1
      have R1 := fun W (GW : Gt W) => right_any Y M D W GW.2
      rw [k] at R1
      exact bk_10 y m d s Y M D w G WK P1 T1 R1 R2
    · rw [e] at P1
      exact bk_00 y m d s 0 0 0 E w G k WK P1 R2
  rw [g] at R2
  obtain ⟨N, T, N1, F1, hN, hT⟩ := key g
  have T2 := fun W (GW : Gt W) => Text_any y m d W GW g
  rw [← hT] at T2
  have P2 := fun W (GW : Gt W) => Parse_any T W GW.2
  rw [hT, ps_txt g, ← hT] at P2
  have lo := num_lo g
  have hi := num_hi g
  cases l : nr (num y m d + 1)
  · have D1 := fun W (GW : Gt W) => Days_any y m d 1 W GW.2
    unfold dys at D1
    obtain ⟨f1, f2, f3⟩ := fr_bad l
    rw [g, if_pos rfl, l, f1, f2, f3] at D1
    have e9 : num y m d = num 9999 12 31 := by
      have : ¬ (1 ≤ num y m d + 1 ∧ num y m d + 1 ≤ 3652059) := fun z => by rw [nr_iff.2 z] at l; cases l
      have : num 9999 12 31 = 3652059 := by decide
      omega
    obtain ⟨a1, a2, a3⟩ := num_inj g (by decide) e9
    rcases ps_cases s with ⟨Y, M, D, e, k, es⟩ | ⟨E, e, k⟩
    · rw [e] at P1
      have T1 := fun W (GW : Gt W) => Text_any Y M D W GW k
      rw [← es] at T1
      have R1 := fun W (GW : Gt W) => right_any Y M D W GW.2
      rw [k] at R1
      exact bk_11 y m d s Y M D N T w G a1 a2 a3 WK P1 T1 R1 R2 N1 F1 T2 P2 D1
    · rw [e] at P1
      exact bk_01 y m d s 0 0 0 E N T w G k a1 a2 a3 WK P1 R2 N1 F1 T2 P2 D1
  · obtain ⟨f1, f2⟩ := fr_good l
    have D1 := fun W (GW : Gt W) => Days_any y m d 1 W GW.2
    unfold dys at D1
    rw [g, if_pos rfl, l] at D1
    generalize fy (num y m d + 1) = u at *
    generalize fm (num y m d + 1) = v at *
    generalize fd (num y m d + 1) = e' at *
    have N2 := fun W (GW : Gt W) => Number_any u v e' W GW.2
    rw [f1, if_pos rfl, f2, ← hN] at N2
    have T3 := fun W (GW : Gt W) => Text_any u v e' W GW f1
    have W1 := fun W (GW : Gt W) => Weekday_any y m d W GW.2
    have W2 := fun W (GW : Gt W) => Weekday_any u v e' W GW.2
    rw [g, if_pos rfl] at W1
    rw [f1, if_pos rfl] at W2
    obtain ⟨q1, q2⟩ := less_asym _ _ (txt_less g f1 (by omega))
    have l1 : Op.bytesLess (bs (txt u v e')).toList T.toList = false := by rw [hT, bs_toList, bs_toList]; exact q1
    have l2 : ((bs (txt u v e')).toList == T.toList) = false := by rw [hT, bs_toList, bs_toList]; exact q2
    rcases ps_cases s with ⟨Y, M, D, e, k, es⟩ | ⟨E, e, k⟩
    · rw [e] at P1
      have T1 := fun W (GW : Gt W) => Text_any Y M D W GW k
      rw [← es] at T1
      have R1 := fun W (GW : Gt W) => right_any Y M D W GW.2
      rw [k] at R1
      exact bk_12 y m d s Y M D N T u v e' _ _ _ w G (wrapI _ (by omega) (by omega)) l1 l2 (by omega) (by omega) (by omega) WK P1 T1 R1 R2 N1 F1 T2 P2 D1 N2 T3 W1 W2
    · rw [e] at P1
      exact bk_02 y m d s 0 0 0 E N T u v e' _ _ _ w G k (wrapI _ (by omega) (by omega)) l1 l2 (by omega) (by omega) (by omega) WK P1 R2 N1 F1 T2 P2 D1 N2 T3 W1 W2
end Go.Proofs.YthadighbhdekdaaDoor.Dt
