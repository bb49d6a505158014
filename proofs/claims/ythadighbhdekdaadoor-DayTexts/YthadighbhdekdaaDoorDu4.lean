import Derived.Test.YthadighbhdekdaaDoorDt4
import Derived.Test.YthadighbhdekdaaDoorDu2
import Derived.Test.YthadighbhdekdaaDoorDu3
namespace Go.Proofs.YthadighbhdekdaaDoor.Dt
open Go.RowKit Go.Lib Go.Proofs.YthadighbhdekdaaDoor.Dy Dc
/-- The bytes from a up to b. -/
def cutL (s : ByteArray) (a b : Nat) : List UInt8 := (s.data.toList.drop a).take (b - a)
theorem size_list (s : ByteArray) : s.size = s.data.toList.length := by rw [Array.length_toList]; rfl
theorem ext_bs (s : ByteArray) (a b : Nat) : s.extract a b = bs (cutL s a b) := by
  apply ByteArray.ext
  rw [ByteArray.data_extract]
  apply Array.ext'
  rw [Array.toList_extract]
  simp [bs, cutL, List.extract]
theorem cut_len {s : ByteArray} {a b : Nat} (h : b ≤ s.size) : (cutL s a b).length = b - a := by
  have := size_list s
  unfold cutL; simp; omega
theorem cut_dg {s : ByteArray} {a b : Nat} (h : b ≤ s.size) (hd : ∀ j, a ≤ j → j < b → okb s j = true) (h4 : ∀ j, a ≤ j → j < b → ¬ (j = 4 ∨ j = 7)) : ∀ c ∈ cutL s a b, Dg c := by
  intro c hc
  have l := cut_len (s := s) (a := a) h
  unfold cutL at hc l
  obtain ⟨i, hi, rfl⟩ := List.getElem_of_mem hc
  have hi' : i < b - a := by rw [l] at hi; exact hi
  have sl := size_list s
  have q := hd (a + i) (by omega) (by omega)
  unfold okb dgt at q
  rw [if_neg (h4 _ (by omega) (by omega)), decide_eq_true_iff, bt_in (by omega)] at q
  simp only [List.getElem_take, List.getElem_drop]
  exact q
theorem nv_cut (s : ByteArray) (a b : Nat) : nv s a b = (Dc.num (cutL s a b) : Int) := rfl
theorem hf_iff {s : ByteArray} : hf s = true ↔ s.size = 10 ∧ ∀ j, j < 10 → okb s j = true := by
  unfold hf
  rw [Bool.and_eq_true, decide_eq_true_iff]
  constructor
  · rintro ⟨h, k⟩
    exact ⟨h, fun j hj => List.all_eq_true.1 k j (List.mem_range.2 hj)⟩
  · rintro ⟨h, k⟩
    exact ⟨h, hf_yes k⟩
theorem dOf (s : ByteArray) (a b : Nat) (h : hf s = true) (hb : b ≤ 10) (hab : a < b) (h4 : ∀ j, a ≤ j → j < b → ¬ (j = 4 ∨ j = 7)) (W : World) :
    Calls Tryd.prog 22 #[.string (s.extract a b)] W fun e w' => e = .returned (.int .i64 (nv s a b)) ∧ Below W.heap.size W w' := by
  obtain ⟨h1, h2⟩ := hf_iff.1 h
  rw [ext_bs, nv_cut]
  refine digitsOf_any (cutL s a b) (cut_dg (by omega) (fun j _ j2 => h2 j (by omega)) h4) ?_ (by rw [cut_len (by omega)]; omega) W
  intro z
  have := cut_len (s := s) (a := a) (b := b) (by omega)
  rw [z] at this
  simp at this
  omega
set_option maxHeartbeats 800000 in
set_option maxRecDepth 100000 in
theorem Parse_long (s : ByteArray) (w : World) (h : s.size > 65536) : Calls Tryd.prog 7 #[.string s] w fun e w' => e = .returned (.tuple #[dt 0 0 0, .int .i64 3]) ∧ Below w.heap.size w w' := by
  have h' : (65536 : Int) < (s.size : Int) := by omega
  unfold dt
  go_enter Tryd.func7, Tryd.ntmps7
  go_wp2_with fail
  exact bodyPost_ret (v := .tuple #[.agg #[.int .i64 0, .int .i64 0, .int .i64 0], .int .i64 3]) (by simp [results, Tryd.results7, go_sem]) rfl ⟨rfl, bl _ _⟩
set_option maxHeartbeats 800000 in
set_option maxRecDepth 100000 in
theorem Parse_form (s : ByteArray) (w : World) (h : ¬ s.size > 65536) (k : hf s = false) : Calls Tryd.prog 7 #[.string s] w fun e w' => e = .returned (.tuple #[dt 0 0 0, .int .i64 2]) ∧ Below w.heap.size w w' := by
  have h' : ¬ (65536 : Int) < (s.size : Int) := by omega
  have HF := hasForm_any s
  rw [k] at HF
  have R0 := Blk.new w #[.int .i64 0, .int .i64 0, .int .i64 0] 23
  have p0 := bl (w := w) #[.int .i64 0, .int .i64 0, .int .i64 0] 23
  unfold dt
  go_enter Tryd.func7, Tryd.ntmps7
  go_wp2_with (first
    | (go_at_call 21; refine (HF _).mono ?_; rintro x w0 ⟨rfl, q, rfl⟩)
    | fail)
  have R1 : Blk ((w.alloc (.cells #[.int .i64 0, .int .i64 0, .int .i64 0] 23)).drewN q) w.heap.size #[.int .i64 0, .int .i64 0, .int .i64 0] 23 := R0
  have p1 := blN (n := q) p0
  clear R0 p0
  generalize (w.alloc (.cells #[.int .i64 0, .int .i64 0, .int .i64 0] 23)).drewN q = V at *
  have KE := dput3 R1 0 0 0
  have bE := dset3 (x := .int .i64 0) (y := .int .i64 0) (z := .int .i64 0) p1 (Nat.le_refl _)
  generalize ((V.setCell ⟨w.heap.size, 0, none⟩ (.int .i64 0)).setCell ⟨w.heap.size, 1, none⟩ (.int .i64 0)).setCell ⟨w.heap.size, 2, none⟩ (.int .i64 0) = WE at *
  have z0 := KE.c0
  have z1 := KE.c1
  have z2 := KE.c2
  exact bodyPost_ret (v := .tuple #[.agg #[.int .i64 0, .int .i64 0, .int .i64 0], .int .i64 2]) (by simp [results, Tryd.results7, go_sem, z0, z1, z2]) rfl ⟨rfl, bE⟩
set_option maxHeartbeats 800000 in
set_option maxRecDepth 100000 in
theorem RParse_long (s : ByteArray) (w : World) (h : s.size > 65536) : Calls Tryd.prog 8 #[.string s] w fun e w' => e = .returned (.tuple #[dt 0 0 0, .int .i64 3]) ∧ Below w.heap.size w w' := by
  have h' : (65536 : Int) < (s.size : Int) := by omega
  unfold dt
  go_enter Tryd.func8, Tryd.ntmps8
  go_wp2_with fail
  exact bodyPost_ret (v := .tuple #[.agg #[.int .i64 0, .int .i64 0, .int .i64 0], .int .i64 3]) (by simp [results, Tryd.results8, go_sem]) rfl ⟨rfl, bl _ _⟩
set_option maxHeartbeats 800000 in
set_option maxRecDepth 100000 in
theorem RParse_ten (s : ByteArray) (w : World) (h : ¬ s.size > 65536) (k : ¬ s.size = 10) : Calls Tryd.prog 8 #[.string s] w fun e w' => e = .returned (.tuple #[dt 0 0 0, .int .i64 2]) ∧ Below w.heap.size w w' := by
  have h' : ¬ (65536 : Int) < (s.size : Int) := by omega
  have k' : ((s.size : Int) != 10) = true := by simp; omega
  unfold dt
  go_enter Tryd.func8, Tryd.ntmps8
  go_wp2_with fail
  exact bodyPost_ret (v := .tuple #[.agg #[.int .i64 0, .int .i64 0, .int .i64 0], .int .i64 2]) (by simp [results, Tryd.results8, go_sem]) rfl ⟨rfl, bl _ _⟩
theorem Parse_any (s : ByteArray) (w : World) (G : Gl w) : Calls Tryd.prog 7 #[.string s] w fun e w' => e = .returned (psR s) ∧ Below w.heap.size w w' := by
  unfold psR
  by_cases h : s.size > 65536
  · rw [if_pos h]; exact Parse_long s w h
  rw [if_neg h]
  cases k : hf s
  · exact Parse_form s w h k
  obtain ⟨h1, h2⟩ := hf_iff.1 k
  have HF := hasForm_any s
  rw [k] at HF
  have CH := Check_any (nv s 0 4) (nv s 5 7) (nv s 8 10)
  rw [if_pos rfl]
  cases g : good (nv s 0 4) (nv s 5 7) (nv s 8 10)
  · rw [g] at CH
    exact Parse_no s _ _ _ _ _ _ w G h1 rfl rfl rfl HF (dOf s 0 4 k (by omega) (by omega) (by omega)) (dOf s 5 7 k (by omega) (by omega) (by omega)) (dOf s 8 10 k (by omega) (by omega) (by omega)) CH
  · rw [g] at CH
    exact Parse_ok s _ _ _ _ _ _ w G h1 rfl rfl rfl HF (dOf s 0 4 k (by omega) (by omega) (by omega)) (dOf s 5 7 k (by omega) (by omega) (by omega)) (dOf s 8 10 k (by omega) (by omega) (by omega)) CH
theorem RParse_any (s : ByteArray) (w : World) : Calls Tryd.prog 8 #[.string s] w fun e w' => e = .returned (psR s) ∧ Below w.heap.size w w' := by
  by_cases h : s.size > 65536
  · unfold psR; rw [if_pos h]; exact RParse_long s w h
  by_cases h1 : s.size = 10
  · refine RParse_walk s w h1 (psR s) ?_ (good (nv s 0 4) (nv s 5 7) (nv s 8 10)) (Good_any _ _ _) ?_
    · rintro ⟨j, j1, j2⟩
      unfold psR
      rw [if_neg h, show hf s = false by unfold hf; rw [hf_no j1 j2, Bool.and_false]]
      rfl
    · intro q
      unfold psR
      rw [if_neg h, hf_iff.2 ⟨h1, q⟩, if_pos rfl]
  · have k : hf s = false := by unfold hf; rw [decide_eq_false h1]; rfl
    unfold psR
    rw [if_neg h, k]
    exact RParse_ten s w h h1
end Go.Proofs.YthadighbhdekdaaDoor.Dt

namespace Go.Proofs.YthadighbhdekdaaDoor.Dt
open Go.RowKit Go.Lib Go.Proofs.YthadighbhdekdaaDoor.Dy Dc
theorem ps_form (s : ByteArray) : ∃ Y M D E, psR s = .tuple #[dt Y M D, .int .i64 E] := by
  unfold psR; split
  · exact ⟨_, _, _, _, rfl⟩
  · split
    · split
      · exact ⟨_, _, _, _, rfl⟩
      · exact ⟨_, _, _, _, rfl⟩
    · exact ⟨_, _, _, _, rfl⟩
set_option maxHeartbeats 1600000 in
set_option maxRecDepth 100000 in
theorem texts_law (y m d : Int) (s : ByteArray) (w : World) (G : Gt w) : Calls Tryd.prog 3 #[dt y m d, .string s] w fun x w' => x = .returned (.bool true) ∧ Below w.heap.size w w' := by
  have Ka0 := Blk.new w #[.int .i64 y, .int .i64 m, .int .i64 d] 23
  have pr := bl (w := w) #[.int .i64 y, .int .i64 m, .int .i64 d] 23
  have G0 := (G).alloc (.cells #[.int .i64 y, .int .i64 m, .int .i64 d] 23)
  have P := Parse_any s
  have Q := RParse_any s
  obtain ⟨Y, M, D, E, e1⟩ := ps_form s
  rw [e1] at P Q
  have Go := Good_any y m d
  clear G e1
  cases g : good y m d
  · have TX := fun W GW => Text_bad y m d W GW g
    rw [g] at Go
    clear g
    unfold dt at *
    go_enter Tryd.func3, Tryd.ntmps3
    go_wp2_with (first
      | (go_at_call 6; refine (TX _ G0).mono ?_; rintro x w1 ⟨rfl, b1⟩; have Ka1 := Ka0.below b1 Ka0.lt; have ka10 := Ka1.c0; have ka11 := Ka1.c1; have ka12 := Ka1.c2; have ka1l := Ka1.lt; have G1 := G0.grow b1; have p1 := belT pr b1)
      | (go_at_call 7; refine (P _ G1.2).mono ?_; rintro x w2 ⟨rfl, b2⟩; have Ka2 := Ka1.below b2 Ka1.lt; have ka20 := Ka2.c0; have ka21 := Ka2.c1; have ka22 := Ka2.c2; have ka2l := Ka2.lt; have G2 := G1.grow b2; have p2 := belT p1 b2)
      | (go_at_call 8; refine (Q _).mono ?_; rintro x w3 ⟨rfl, b3⟩; have Ka3 := (Ka2.alloc (.cells #[.int .i64 Y, .int .i64 M, .int .i64 D] 23)).below b3 (Ka2.alloc (.cells #[.int .i64 Y, .int .i64 M, .int .i64 D] 23)).lt; have ka30 := Ka3.c0; have ka31 := Ka3.c1; have ka32 := Ka3.c2; have ka3l := Ka3.lt; have G3 := (G2.alloc (.cells #[.int .i64 Y, .int .i64 M, .int .i64 D] 23)).grow b3; have p3 := belT (belT p2 (bl _ _)) b3; have X3 := (Blk.new w2 #[.int .i64 Y, .int .i64 M, .int .i64 D] 23).below b3 (Blk.new w2 #[.int .i64 Y, .int .i64 M, .int .i64 D] 23).lt; have x30 := X3.c0; have x31 := X3.c1; have x32 := X3.c2; have x3l := X3.lt)
      | (go_at_call 9; refine (Go _).mono ?_; rintro x w4 ⟨rfl, b4⟩; have Ka4 := (Ka3.alloc (.cells #[.int .i64 Y, .int .i64 M, .int .i64 D] 23)).below b4 (Ka3.alloc (.cells #[.int .i64 Y, .int .i64 M, .int .i64 D] 23)).lt; have ka40 := Ka4.c0; have ka41 := Ka4.c1; have ka42 := Ka4.c2; have ka4l := Ka4.lt; have G4 := (G3.alloc (.cells #[.int .i64 Y, .int .i64 M, .int .i64 D] 23)).grow b4; have p4 := belT (belT p3 (bl _ _)) b4)
      | fail)
    go_ret
    exact ⟨rfl, p4⟩
  · have TX := fun W GW => Text_any y m d W GW g
    have RT := fun W GW => RText_any y m d W GW g
    rw [g] at Go
    clear g
    generalize bs (txt y m d) = S at *
    unfold dt at *
    go_enter Tryd.func3, Tryd.ntmps3
    go_wp2_with (first
      | (go_at_call 6; refine (TX _ G0).mono ?_; rintro x w1 ⟨rfl, b1⟩; have Ka1 := Ka0.below b1 Ka0.lt; have ka10 := Ka1.c0; have ka11 := Ka1.c1; have ka12 := Ka1.c2; have ka1l := Ka1.lt; have G1 := G0.grow b1; have p1 := belT pr b1)
      | (go_at_call 7; refine (P _ G1.2).mono ?_; rintro x w2 ⟨rfl, b2⟩; have Ka2 := Ka1.below b2 Ka1.lt; have ka20 := Ka2.c0; have ka21 := Ka2.c1; have ka22 := Ka2.c2; have ka2l := Ka2.lt; have G2 := G1.grow b2; have p2 := belT p1 b2)
      | (go_at_call 8; refine (Q _).mono ?_; rintro x w3 ⟨rfl, b3⟩; have Ka3 := (Ka2.alloc (.cells #[.int .i64 Y, .int .i64 M, .int .i64 D] 23)).below b3 (Ka2.alloc (.cells #[.int .i64 Y, .int .i64 M, .int .i64 D] 23)).lt; have ka30 := Ka3.c0; have ka31 := Ka3.c1; have ka32 := Ka3.c2; have ka3l := Ka3.lt; have G3 := (G2.alloc (.cells #[.int .i64 Y, .int .i64 M, .int .i64 D] 23)).grow b3; have p3 := belT (belT p2 (bl _ _)) b3; have X3 := (Blk.new w2 #[.int .i64 Y, .int .i64 M, .int .i64 D] 23).below b3 (Blk.new w2 #[.int .i64 Y, .int .i64 M, .int .i64 D] 23).lt; have x30 := X3.c0; have x31 := X3.c1; have x32 := X3.c2; have x3l := X3.lt)
      | (go_at_call 9; refine (Go _).mono ?_; rintro x w4 ⟨rfl, b4⟩; have Ka4 := (Ka3.alloc (.cells #[.int .i64 Y, .int .i64 M, .int .i64 D] 23)).below b4 (Ka3.alloc (.cells #[.int .i64 Y, .int .i64 M, .int .i64 D] 23)).lt; have ka40 := Ka4.c0; have ka41 := Ka4.c1; have ka42 := Ka4.c2; have ka4l := Ka4.lt; have G4 := (G3.alloc (.cells #[.int .i64 Y, .int .i64 M, .int .i64 D] 23)).grow b4; have p4 := belT (belT p3 (bl _ _)) b4)
      | (go_at_call 10; refine (RT _ G4).mono ?_; rintro x w5 ⟨rfl, b5⟩; have p5 := belT p4 b5)
      | fail)
    go_ret
    exact ⟨rfl, p5⟩
end Go.Proofs.YthadighbhdekdaaDoor.Dt
