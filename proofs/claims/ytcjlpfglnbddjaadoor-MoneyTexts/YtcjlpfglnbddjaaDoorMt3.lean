import Derived.Test.YtcjlpfglnbddjaaDoorMt2
import Derived.Deep.RegionHeld3
namespace Go.Proofs.YtcjlpfglnbddjaaDoor.Mo
open Go.RowKit Go.Lib

theorem two_bytes (z : Nat) : strOfNums [48 + (z : Int) / 10 % 10, 48 + (z : Int) % 10] = bs (behindL z) := by
  unfold strOfNums bs behindL
  have e1 : (48 + (z : Int) / 10 % 10).toNat = 48 + z / 10 % 10 := by omega
  have e2 : (48 + (z : Int) % 10).toNat = 48 + z % 10 := by omega
  simp [e1, e2]
theorem conv2 (n z : Nat) (W : World) (h0 : W.cell? ⟨n, 0, none⟩ = some (.int .u8 (48 + (z : Int) / 10 % 10))) (h1 : W.cell? ⟨n, 1, none⟩ = some (.int .u8 (48 + (z : Int) % 10))) :
    (convert 37 9 (.slice (some ⟨n, 0, none⟩) 2 2)).run Tryd.prog W = .ok (.string (bs (behindL z))) W := by
  rw [← two_bytes]
  refine run_convert_bytes_arg W _ _ Tryd.underlying37 Tryd.underlying5 n 0 2 2 _ rfl (fun i hi => ?_) _ Tryd.underlying9
  match i, hi with
  | 0, _ => exact h0
  | 1, _ => exact h1

set_option maxHeartbeats 6400000 in
set_option maxRecDepth 100000 in
theorem rshow_pos (z : Nat) (w : World) (hA : isA (z : Int) = true) :
    Calls Tryd.prog 5 #[.int .i64 (z : Int)] w fun e w' => e = .returned (.tuple #[.string (bs ([] ++ decDigits (z / 100) ++ [46] ++ behindL z)), .int .i64 0]) ∧ Below w.heap.size w w' := by
  have ba := isA_iff.1 hA
  have I1 := fun W => L.Whole_nat (z / 100) W (by omega)
  rw [show ((z / 100 : Nat) : Int) = (z : Int) / 100 from by omega] at I1
  have hl2 := nd_le (z / 100) (by omega)
  obtain ⟨D2, hD2⟩ : ∃ D, D = decDigits (z / 100) := ⟨_, rfl⟩
  rw [← hD2] at I1 hl2 ⊢
  clear hD2
  replace I1 : ∀ W, Calls Tryd.prog 12 #[.int .i64 ((z : Int) / 100)] W fun e w' => e = .returned (.string (bs D2)) ∧ Below W.heap.size W w' := I1
  have cv := fun n => conv2 n z
  have w1 : IntKind.u8.wrap (48 + (z : Int) / 10 % 10) = 48 + (z : Int) / 10 % 10 := by simp [IntKind.wrap, IntKind.bits, IntKind.signed]; omega
  have w2 : IntKind.u8.wrap (48 + (z : Int) % 10) = 48 + (z : Int) % 10 := by simp [IntKind.wrap, IntKind.bits, IntKind.signed]; omega
  have u1 : IntKind.i64.wrap ((z : Int) / 100) = (z : Int) / 100 := wrapI _ (by omega) (by omega)
  have u2 : IntKind.i64.wrap ((z : Int) / 10) = (z : Int) / 10 := wrapI _ (by omega) (by omega)
  have u3 : ((z : Int) / 10).tmod 10 = (z : Int) / 10 % 10 := Int.tmod_eq_emod_of_nonneg (by omega)
  have u4 : ((z : Int)).tmod 10 = (z : Int) % 10 := Int.tmod_eq_emod_of_nonneg (by omega)
  have u5 : IntKind.i64.wrap (48 + (z : Int) / 10 % 10) = 48 + (z : Int) / 10 % 10 := wrapI _ (by omega) (by omega)
  have u6 : IntKind.i64.wrap (48 + (z : Int) % 10) = 48 + (z : Int) % 10 := wrapI _ (by omega) (by omega)
  obtain ⟨S0, hS0⟩ : ∃ S, S = bs ([] ++ D2) := ⟨_, rfl⟩
  obtain ⟨S1, hS1⟩ : ∃ S, S = bs ([] ++ D2 ++ [46]) := ⟨_, rfl⟩
  obtain ⟨S2, hS2⟩ : ∃ S, S = bs ([] ++ D2 ++ [46] ++ behindL z) := ⟨_, rfl⟩
  have a0 : ∀ W, (Op.stringOp .add ⟨#[]⟩ (bs D2)).run Tryd.prog W = .ok (.string S0) W := fun W => by
    rw [run_string_add_sum W _ _ (by rw [bs_size]; simp [ByteArray.size]; omega), hS0]
    exact congrArg (fun x => Result.ok (Value.string x) W) (bs_add [] D2)
  have a1 : ∀ W, (Op.stringOp .add S0 ⟨#[46]⟩).run Tryd.prog W = .ok (.string S1) W := fun W => by
    rw [hS0, run_string_add_sum W _ _ (by rw [bs_size]; simp [ByteArray.size]; omega), hS1]
    exact congrArg (fun x => Result.ok (Value.string x) W) (bs_add ([] ++ D2) [46])
  have a2 : ∀ W, (Op.stringOp .add S1 (bs (behindL z))).run Tryd.prog W = .ok (.string S2) W := fun W => by
    rw [hS1, run_string_add_sum W _ _ (by rw [bs_size, bs_size]; simp [behindL]; omega), bs_add, hS2]
  have z0 : S0.size ≤ 17 := by rw [hS0, bs_size]; simp; omega
  have z1 : S1.size ≤ 18 := by rw [hS1, bs_size]; simp; omega
  have c0 : (⟨#[]⟩ : ByteArray) ++ bs D2 = S0 := by rw [hS0]; exact bs_add [] D2
  have c1 : S0 ++ (⟨#[46]⟩ : ByteArray) = S1 := by rw [hS0, hS1]; exact bs_add ([] ++ D2) [46]
  have c2 : S1 ++ bs (behindL z) = S2 := by rw [hS1, hS2]; exact bs_add ([] ++ D2 ++ [46]) (behindL z)
  have zD : (bs D2).size ≤ 16 := by rw [bs_size]; exact hl2
  rw [← hS2]
  clear hS0 hS1 hS2 a0 a1 a2
  obtain ⟨BZ, hBZ⟩ : ∃ S, S = bs (behindL z) := ⟨_, rfl⟩
  have zB : BZ.size = 2 := by rw [hBZ, bs_size]; rfl
  simp only [← hBZ] at c2 cv
  clear hBZ
  generalize (z : Int) / 10 % 10 = d1 at *
  generalize (z : Int) % 10 = d2 at *
  go_enter Tryd.func5, Tryd.ntmps5
  go_wp2_with (go_at_call 11; refine (Is_any _ _).mono ?_; rintro e w' ⟨rfl, rfl⟩)
  go_region_with (first
    | (go_at_call 12; (with_reducible refine (I1 _).mono ?_); rintro e w2 ⟨rfl, b2⟩; (refine (fun k0 : (w2.cell? ⟨w'.heap.size, 0, none⟩ = some (.int .u8 (48 + d1))) => ?_) ?k0); (case k0 => (refine (b2.cell (p := ⟨w'.heap.size, 0, none⟩) ?_).trans ?_) <;> (simp; done)); (refine (fun k1 : (w2.cell? ⟨w'.heap.size, 1, none⟩ = some (.int .u8 (48 + d2))) => ?_) ?k1); (case k1 => (refine (b2.cell (p := ⟨w'.heap.size, 1, none⟩) ?_).trans ?_) <;> (simp; done)))
    | (go_at_call 12; (with_reducible refine (I1 _).mono ?_); rintro e w2 ⟨rfl, b2⟩))
  all_goals
    go_wp2
    go_ret2
    refine ⟨rfl, ?_⟩
    first
      | exact ((Below.refl w'.heap.size w').alloc (Nat.le_refl _) _).trans ((L.below_undrew b2).mono (by simp))
      | (refine Below.alloc (L.below_undrew b2) ?_ _; simpa using b2.size)
set_option maxHeartbeats 6400000 in
set_option maxRecDepth 100000 in
theorem rshow_neg (z : Nat) (w : World) (hA : isA (-(z : Int)) = true) (hz : 0 < z) :
    Calls Tryd.prog 5 #[.int .i64 (-(z : Int))] w fun e w' => e = .returned (.tuple #[.string (bs ([45] ++ decDigits (z / 100) ++ [46] ++ behindL z)), .int .i64 0]) ∧ Below w.heap.size w w' := by
  have ba := isA_iff.1 hA
  have I1 := fun W => L.Whole_nat (z / 100) W (by omega)
  rw [show ((z / 100 : Nat) : Int) = (z : Int) / 100 from by omega] at I1
  have hl2 := nd_le (z / 100) (by omega)
  obtain ⟨D2, hD2⟩ : ∃ D, D = decDigits (z / 100) := ⟨_, rfl⟩
  rw [← hD2] at I1 hl2 ⊢
  clear hD2
  replace I1 : ∀ W, Calls Tryd.prog 12 #[.int .i64 ((z : Int) / 100)] W fun e w' => e = .returned (.string (bs D2)) ∧ Below W.heap.size W w' := I1
  have cv := fun n => conv2 n z
  have w1 : IntKind.u8.wrap (48 + (z : Int) / 10 % 10) = 48 + (z : Int) / 10 % 10 := by simp [IntKind.wrap, IntKind.bits, IntKind.signed]; omega
  have w2 : IntKind.u8.wrap (48 + (z : Int) % 10) = 48 + (z : Int) % 10 := by simp [IntKind.wrap, IntKind.bits, IntKind.signed]; omega
  have u1 : IntKind.i64.wrap ((z : Int) / 100) = (z : Int) / 100 := wrapI _ (by omega) (by omega)
  have u2 : IntKind.i64.wrap ((z : Int) / 10) = (z : Int) / 10 := wrapI _ (by omega) (by omega)
  have u3 : ((z : Int) / 10).tmod 10 = (z : Int) / 10 % 10 := Int.tmod_eq_emod_of_nonneg (by omega)
  have u4 : ((z : Int)).tmod 10 = (z : Int) % 10 := Int.tmod_eq_emod_of_nonneg (by omega)
  have u5 : IntKind.i64.wrap (48 + (z : Int) / 10 % 10) = 48 + (z : Int) / 10 % 10 := wrapI _ (by omega) (by omega)
  have u6 : IntKind.i64.wrap (48 + (z : Int) % 10) = 48 + (z : Int) % 10 := wrapI _ (by omega) (by omega)
  obtain ⟨S0, hS0⟩ : ∃ S, S = bs ([45] ++ D2) := ⟨_, rfl⟩
  obtain ⟨S1, hS1⟩ : ∃ S, S = bs ([45] ++ D2 ++ [46]) := ⟨_, rfl⟩
  obtain ⟨S2, hS2⟩ : ∃ S, S = bs ([45] ++ D2 ++ [46] ++ behindL z) := ⟨_, rfl⟩
  have a0 : ∀ W, (Op.stringOp .add ⟨#[45]⟩ (bs D2)).run Tryd.prog W = .ok (.string S0) W := fun W => by
    rw [run_string_add_sum W _ _ (by rw [bs_size]; simp [ByteArray.size]; omega), hS0]
    exact congrArg (fun x => Result.ok (Value.string x) W) (bs_add [45] D2)
  have a1 : ∀ W, (Op.stringOp .add S0 ⟨#[46]⟩).run Tryd.prog W = .ok (.string S1) W := fun W => by
    rw [hS0, run_string_add_sum W _ _ (by rw [bs_size]; simp [ByteArray.size]; omega), hS1]
    exact congrArg (fun x => Result.ok (Value.string x) W) (bs_add ([45] ++ D2) [46])
  have a2 : ∀ W, (Op.stringOp .add S1 (bs (behindL z))).run Tryd.prog W = .ok (.string S2) W := fun W => by
    rw [hS1, run_string_add_sum W _ _ (by rw [bs_size, bs_size]; simp [behindL]; omega), bs_add, hS2]
  have z0 : S0.size ≤ 17 := by rw [hS0, bs_size]; simp; omega
  have z1 : S1.size ≤ 18 := by rw [hS1, bs_size]; simp; omega
  have c0 : (⟨#[45]⟩ : ByteArray) ++ bs D2 = S0 := by rw [hS0]; exact bs_add [45] D2
  have c1 : S0 ++ (⟨#[46]⟩ : ByteArray) = S1 := by rw [hS0, hS1]; exact bs_add ([45] ++ D2) [46]
  have c2 : S1 ++ bs (behindL z) = S2 := by rw [hS1, hS2]; exact bs_add ([45] ++ D2 ++ [46]) (behindL z)
  have zD : (bs D2).size ≤ 16 := by rw [bs_size]; exact hl2
  rw [← hS2]
  clear hS0 hS1 hS2 a0 a1 a2
  obtain ⟨BZ, hBZ⟩ : ∃ S, S = bs (behindL z) := ⟨_, rfl⟩
  have zB : BZ.size = 2 := by rw [hBZ, bs_size]; rfl
  simp only [← hBZ] at c2 cv
  clear hBZ
  generalize (z : Int) / 10 % 10 = d1 at *
  generalize (z : Int) % 10 = d2 at *
  go_enter Tryd.func5, Tryd.ntmps5
  go_wp2_with (go_at_call 11; refine (Is_any _ _).mono ?_; rintro e w' ⟨rfl, rfl⟩)
  go_region_with (first
    | (go_at_call 12; (with_reducible refine (I1 _).mono ?_); rintro e w2 ⟨rfl, b2⟩; (refine (fun k0 : (w2.cell? ⟨w'.heap.size, 0, none⟩ = some (.int .u8 (48 + d1))) => ?_) ?k0); (case k0 => (refine (b2.cell (p := ⟨w'.heap.size, 0, none⟩) ?_).trans ?_) <;> (simp; done)); (refine (fun k1 : (w2.cell? ⟨w'.heap.size, 1, none⟩ = some (.int .u8 (48 + d2))) => ?_) ?k1); (case k1 => (refine (b2.cell (p := ⟨w'.heap.size, 1, none⟩) ?_).trans ?_) <;> (simp; done)))
    | (go_at_call 12; (with_reducible refine (I1 _).mono ?_); rintro e w2 ⟨rfl, b2⟩))
  all_goals
    go_wp2
    go_ret2
    refine ⟨rfl, ?_⟩
    first
      | exact ((Below.refl w'.heap.size w').alloc (Nat.le_refl _) _).trans ((L.below_undrew b2).mono (by simp))
      | (refine Below.alloc (L.below_undrew b2) ?_ _; simpa using b2.size)
theorem RShow_any (p : Int) (w : World) :
    Calls Tryd.prog 5 #[.int .i64 p] w fun e w' => e = .returned (.tuple #[.string (bs (if isA p then showL p else [])), .int .i64 (if isA p then 0 else 6)]) ∧ Below w.heap.size w w' := by
  rcases hA : isA p with _ | _
  · go_enter Tryd.func5, Tryd.ntmps5
    go_wp2_with (go_at_call 11; refine (Is_any p _).mono ?_; rintro e w' ⟨rfl, rfl⟩)
    go_ret2
    exact ⟨rfl, Below.refl _ _⟩
  · by_cases h0 : p < 0
    · obtain ⟨z, rfl⟩ : ∃ z : Nat, p = -(z : Int) := ⟨p.natAbs, by omega⟩
      have e : showL (-(z : Int)) = [45] ++ decDigits (z / 100) ++ [46] ++ behindL z := by
        unfold showL sg
        rw [if_pos h0]
        simp
      rw [if_pos rfl, if_pos rfl, e]
      exact rshow_neg z w hA (by omega)
    · obtain ⟨z, rfl⟩ : ∃ z : Nat, p = (z : Int) := ⟨p.natAbs, by omega⟩
      have e : showL (z : Int) = [] ++ decDigits (z / 100) ++ [46] ++ behindL z := by
        unfold showL sg
        rw [if_neg h0]
        simp
      rw [if_pos rfl, if_pos rfl, e]
      exact rshow_pos z w hA
end Go.Proofs.YtcjlpfglnbddjaaDoor.Mo
