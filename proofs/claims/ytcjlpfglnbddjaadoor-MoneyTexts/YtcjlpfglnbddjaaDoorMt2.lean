import Derived.Test.YtcjlpfglnbddjaaDoorMt1
namespace Go.Proofs.YtcjlpfglnbddjaaDoor.Mo
open Go.RowKit Go.Lib

set_option maxRecDepth 100000 in
theorem WithSign_any (g : Bool) (l : List UInt8) (w : World) (hl : l.length ≤ 8388608) :
    Calls Tryd.prog 10 #[.bool g, .string (bs l)] w fun e w' => e = .returned (.string (bs ((if g then [45] else []) ++ l))) ∧ w' = w := by
  have h1 : Hid ((⟨#[45]⟩ : ByteArray) ++ bs l = bs ([45] ++ l)) := bs_add [45] l
  have h2 := run_string_add_sum (P := Tryd.prog) w ⟨#[45]⟩ (bs l) (by rw [bs_size]; simp [ByteArray.size]; omega)
  rw [h1.out] at h2
  cases g
  · go_enter Tryd.func10, Tryd.ntmps10
    go_wp2
    go_ret
    exact ⟨rfl, rfl⟩
  · go_enter Tryd.func10, Tryd.ntmps10
    go_wp2
    go_ret
    exact ⟨rfl, rfl⟩
theorem below_grow (w : World) (k : Nat) (os : Array Obj) : Below w.heap.size w (Go.Sort.grow (w.drewN k) os) := by
  refine ⟨rfl, rfl, rfl, by simp [Go.Sort.grow], fun i hi => ?_⟩
  simp only [Go.Sort.grow]
  exact Array.getElem?_append_left hi
/-- strconv.Itoa of what is not below nought. -/
theorem Itoa_nat (n : Nat) (hn : (n : Int) ≤ 9223372036854775807) (w : World) (G : Gv w) :
    Calls Tryd.prog 9 #[.int .i64 (n : Int)] w fun e w' => e = .returned (.string (bs (decDigits n))) ∧ Below w.heap.size w w' := by
  refine (Tryd.strconv_Itoa (n : Int) (by omega) hn w G.tab).mono ?_
  rintro e w' ⟨rfl, k, os, rfl⟩
  refine ⟨?_, below_grow w k os⟩
  have : Lib.itoa (n : Int) = decDigits n := by unfold Lib.itoa; rw [if_neg (by omega)]; simp
  rw [this]
  rfl
theorem nd_le (n : Nat) (h : n < 10000000000000000) : (decDigits n).length ≤ 16 := by
  rw [decDigits_length]
  exact Dc.nDigits_le (by decide) h

set_option maxHeartbeats 1600000 in
set_option maxRecDepth 100000 in
theorem Show_any (p : Int) (w : World) (G : Gv w) :
    Calls Tryd.prog 4 #[.int .i64 p] w fun e w' => e = .returned (.tuple #[.string (bs (if isA p then showL p else [])), .int .i64 (if isA p then 0 else 6)]) ∧ Below w.heap.size w w' := by
  rcases hA : isA p with _ | _
  · go_enter Tryd.func4, Tryd.ntmps4
    go_wp2_with (go_at_call 8; refine (isAmount_any p _).mono ?_; rintro e w' ⟨rfl, rfl⟩)
    go_ret2
    exact ⟨rfl, Below.refl _ _⟩
  · have ba := isA_iff.1 hA
    have hm : max p (-p) = (p.natAbs : Int) := by omega
    have e1 : (100 + (p.natAbs : Int) % 100) = ((100 + p.natAbs % 100 : Nat) : Int) := by omega
    have e2 : (p.natAbs : Int) / 100 = ((p.natAbs / 100 : Nat) : Int) := by omega
    have I1 := fun W G' => Itoa_nat (100 + p.natAbs % 100) (by omega) W G'
    have I2 := fun W G' => Itoa_nat (p.natAbs / 100) (by omega) W G'
    rw [← e1] at I1
    rw [← e2] at I2
    clear e1 e2
    obtain ⟨T3, hT3⟩ : ∃ T, T = bs (decDigits (100 + p.natAbs % 100)) := ⟨_, rfl⟩
    have hs3 : T3.size = 3 := by rw [hT3, bs_size, dec3 _ (by omega)]; rfl
    have hx3 : T3.extract 1 3 = bs (behindL p.natAbs) := by
      rw [hT3, dec3 _ (by omega)]
      unfold behindL
      rw [show p.natAbs / 10 % 10 = p.natAbs % 100 / 10 from by omega, show p.natAbs % 10 = p.natAbs % 100 % 10 from by omega]
      rfl
    have hl2 := nd_le (p.natAbs / 100) (by omega)
    obtain ⟨D2, hD2⟩ : ∃ D, D = decDigits (p.natAbs / 100) := ⟨_, rfl⟩
    obtain ⟨B2, hB2⟩ : ∃ D, D = behindL p.natAbs := ⟨_, rfl⟩
    have hb2 : B2.length = 2 := by rw [hB2]; rfl
    have hR : Hid (showL p = sg p ++ D2 ++ [46] ++ B2) := by show _ = _; rw [hD2, hB2]; rfl
    rw [← hT3] at I1
    rw [← hD2] at I2 hl2
    rw [← hB2] at hx3
    clear hT3 hD2 hB2
    obtain ⟨S, hS⟩ : ∃ S, S = (if decide (p < 0) = true then [45] else []) ++ D2 := ⟨_, rfl⟩
    have hSl : S.length ≤ 17 := by rw [hS, List.length_append]; split <;> simp <;> omega
    have hS2 : Hid (sg p ++ D2 = S) := by show _ = _; rw [hS]; unfold sg; simp
    have W1 := fun W => WithSign_any (decide (p < 0)) D2 W (by omega)
    rw [← hS] at W1
    have a1 : ∀ W, (Op.stringOp .add (bs S) ⟨#[46]⟩).run Tryd.prog W = .ok (.string (bs (S ++ [46]))) W := fun W => by
      rw [run_string_add_sum W _ _ (by rw [bs_size]; simp [ByteArray.size]; omega)]
      exact congrArg (fun x => Result.ok (Value.string x) W) (bs_add S [46])
    have a2 : ∀ W, (Op.stringOp .add (bs (S ++ [46])) (bs B2)).run Tryd.prog W = .ok (.string (bs (S ++ [46] ++ B2))) W := fun W => by
      rw [run_string_add_sum W _ _ (by rw [bs_size, bs_size, List.length_append]; simp; omega), bs_add]
    clear hS hSl
    go_enter Tryd.func4, Tryd.ntmps4
    go_wp2_with (first
      | (go_at_call 8; refine (isAmount_any p _).mono ?_; rintro e w' ⟨rfl, rfl⟩)
      | (go_at_call 9; (with_reducible refine (I1 _ G).mono ?_); rintro e w2 ⟨rfl, b2⟩; have G2 := G.grow b2)
      | (go_at_call 9; (with_reducible refine (I2 _ G2).mono ?_); rintro e w3 ⟨rfl, b3⟩)
      | (go_at_call 10; (with_reducible refine (W1 _).mono ?_); rintro e w4 ⟨rfl, rfl⟩))
    go_ret2
    have e9 : showL p = S ++ 46 :: B2 := by rw [hR.out, hS2.out]; simp
    exact ⟨by rw [e9]; rfl, b2.trans (b3.mono b2.size)⟩
end Go.Proofs.YtcjlpfglnbddjaaDoor.Mo
