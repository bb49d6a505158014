import Derived.Test.YthadighbhdekdaaDoorDt3
import Derived.Test.YthadighbhdekdaaDoorTx5
namespace Go.Proofs.YthadighbhdekdaaDoor.Dt
open Go.RowKit Go.Lib Go.Proofs.YthadighbhdekdaaDoor.Dy
/-- How long a text is. -/
def sl : Value → Nat
  | .string s => s.size
  | _ => 0
theorem rep_more (j : Nat) (D : List UInt8) : (⟨#[48]⟩ : ByteArray) ++ bs (List.replicate j 48 ++ D) = bs (List.replicate (j + 1) 48 ++ D) := by
  rw [show (⟨#[48]⟩ : ByteArray) = bs [48] from rfl, bs_add]
  rfl
set_option maxHeartbeats 800000 in
set_option maxRecDepth 100000 in
theorem digits_walk (n : Int) (k : Nat) (D : List UInt8) (hD : D.length ≤ k) (hk : k ≤ 4) (w : World)
    (WH : ∀ W, Calls Tryd.prog 45 #[.int .i64 n] W fun e w' => e = .returned (.string (bs D)) ∧ Below W.heap.size W w') :
    Calls Tryd.prog 24 #[.int .i64 n, .int .i64 (k : Int)] w fun e w' => e = .returned (.string (bs (List.replicate (k - D.length) 48 ++ D))) ∧ Below w.heap.size w w' := by
  obtain ⟨E0, hE⟩ : ∃ E0, E0 = bs (List.replicate (k - D.length) 48 ++ D) := ⟨_, rfl⟩
  rw [← hE]
  have HE : Hid _ := hE
  clear hE
  go_enter Tryd.func24, Tryd.ntmps24
  go_wp2_with (first
    | (go_at_call 45; refine (WH _).mono ?_; rintro x w1 ⟨rfl, b1⟩)
    | fail)
  go_loop [5] (fun v => ∃ j : Nat, j ≤ k - D.length ∧ v = .string (bs (List.replicate j 48 ++ D))) (fun v => k - sl v)
  case atStart => exact ⟨0, by omega, rfl⟩
  case round =>
    obtain ⟨j, j1, rfl⟩ := hrel
    have sz : (bs (List.replicate j 48 ++ D)).size = j + D.length := by rw [bs_size]; simp
    have c1 := rep_more j D
    have sz2 : Hid ((bs (List.replicate (j + 1) 48 ++ D)).size = j + 1 + D.length) := by show _ = _; rw [bs_size]; simp
    obtain ⟨S, hS⟩ : ∃ S, S = bs (List.replicate j 48 ++ D) := ⟨_, rfl⟩
    obtain ⟨S', hS'⟩ : ∃ S, S = bs (List.replicate (j + 1) 48 ++ D) := ⟨_, rfl⟩
    rw [← hS] at sz c1 ⊢
    rw [← hS'] at c1 sz2
    have hS2 : Hid _ := hS'
    have hS1 : Hid _ := hS
    clear hS hS'
    by_cases c : j < k - D.length
    · have l1 : S.size < k := by omega
      have l2 : S.size ≤ 4 := by omega
      have l3 : (S.size : Int) < (k : Int) := by omega
      clear sz
      go_wp2_with fail
      go_round
      case rel => exact ⟨j + 1, by omega, by rw [hS2.out]⟩
      case measure => show k - S'.size < k - S.size; rw [sz2.out, hS1.out, bs_size]; simp; omega
    · have l1 : ¬ (S.size : Int) < (k : Int) := by omega
      clear sz
      go_wp2_with fail
      go_ret
      refine ⟨?_, b1⟩
      rw [HE.out, hS1.out, show j = k - D.length by omega]
      rfl
theorem digits4 (n : Nat) (h : n < 10000) (w : World) : Calls Tryd.prog 24 #[.int .i64 (n : Int), .int .i64 4] w fun e w' => e = .returned (.string (bs (pad4 n))) ∧ Below w.heap.size w w' := by
  have := digits_walk n 4 (decDigits n) (by rw [decDigits_length]; exact nd4 n h) (by omega) w (fun W => L.Whole_nat n W (by omega))
  rw [decDigits_length, fill4 n h] at this
  exact this
theorem digits2 (n : Nat) (h : n < 100) (w : World) : Calls Tryd.prog 24 #[.int .i64 (n : Int), .int .i64 2] w fun e w' => e = .returned (.string (bs (pad2 n))) ∧ Below w.heap.size w w' := by
  have := digits_walk n 2 (decDigits n) (by rw [decDigits_length]; exact nd2 n h) (by omega) w (fun W => L.Whole_nat n W (by omega))
  rw [decDigits_length, fill2 n h] at this
  exact this
theorem RText_any (y m d : Int) (w : World) (G : Gt w) (g : good y m d = true) : Calls Tryd.prog 10 #[dt y m d] w fun e w' => e = .returned (.string (bs (txt y m d))) ∧ Below w.heap.size w w' := by
  obtain ⟨g1, g2, g3, g4, g5, g6⟩ := good_iff.1 g
  have mb := ml_bd (lp y) m
  obtain ⟨Q1, Q2, Q3, t1, t2, t3, q1, q2, q3, q4⟩ := txt_sum y m d
  have C1 := fun W (_ : Gt W) => digits4 y.toNat (by omega) W
  have C2 := fun W (_ : Gt W) => digits2 m.toNat (by omega) W
  have C3 := fun W (_ : Gt W) => digits2 d.toNat (by omega) W
  rw [toNat_int (by omega)] at C1 C2 C3
  exact RText_walk y m d w G _ _ _ Q1 Q2 Q3 _ (by rw [bs_size]; rfl) (by rw [bs_size]; rfl) (by rw [bs_size]; rfl) t1 t2 t3 q1 q2 q3 q4 C1 C2 C3
end Go.Proofs.YthadighbhdekdaaDoor.Dt
