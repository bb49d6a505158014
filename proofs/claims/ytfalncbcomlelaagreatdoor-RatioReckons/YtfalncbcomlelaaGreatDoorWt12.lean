import Derived.Test.YtfalncbcomlelaaGreatDoorWt11
import Derived.Test.YtfalncbcomlelaaGreatDoorShelf
namespace Go.Proofs.YtfalncbcomlelaaGreatDoor.Wt
open Go.RowKit Tn Mo Go.Lib

theorem nDig_of {V k : Nat} (h : V < rung k) : nDigits V ≤ 19 * 2 ^ k := by
  refine Dc.nDigits_le (Nat.mul_pos (by decide) (Nat.pow_pos (by decide))) ?_
  rw [ten_pow]
  exact h
theorem nb_pw {A n : Nat} (h : nb A ≤ 64 * n) : (A : Int) < pw n := by
  rw [pw_two]
  exact lt_cast (Nat.lt_of_lt_of_le (nb_spec A).1 (Nat.pow_le_pow_right (by decide) h))
set_option maxRecDepth 100000 in
set_option maxHeartbeats 3200000 in
/-- Text of a number of two words and more, of at most sixteen thousand bits. -/
theorem Text_many (p : Option Addr) (l c A : Nat) (w : World) (hA : Nn w p l c (A : Int)) (hb : nb A ≤ 16000) (h2 : 18446744073709551616 ≤ A) :
    Calls Tryz.prog 104 #[.agg #[.slice p l c]] w fun e w' => e = .returned (.string ⟨(decDigits A).toArray⟩) ∧ Below w.heap.size w w' := by
  have hAp : (A : Int) < pw 1000000 := nb_pw (by omega)
  have hl : 2 ≤ l := by
    obtain ⟨xs, ⟨hW, a1, c1, e, _⟩, n, hv⟩ := hA
    simp only [Value.slice.injEq] at e
    rw [e.2.1]
    by_cases q : 2 ≤ xs.length
    · exact q
    · exfalso
      have v1 := val_lt hW
      have := pw_mono (show xs.length ≤ 1 by omega)
      have p1 : pw 1 = 18446744073709551616 := by decide
      omega
  have hlm : (l : Int) ≤ 9223372036854775807 := by
    obtain ⟨xs, ⟨hW, a1, c1, e, h3, h4, _⟩, n, hv⟩ := hA
    simp only [Value.slice.injEq] at e
    unfold maxLen at h4
    omega
  have hl' : ¬ (l : Int) ≤ 1 := by omega
  have B0 := Bx.new w (.slice p l c) 56
  have al := (Below.refl w.heap.size w).alloc (Nat.le_refl _) (.cells #[.slice p l c] 56)
  have nA := hA.grow al
  have q0 := B0.1
  have lB := B0.lt
  have LA := fun (x : World) (h : Nn x p l c (A : Int)) => ladder_any p l c A x h hb hAp
  have HP : Hid ((A : Int) < pw 1000000) := hAp
  clear hAp hA
  go_enter Tryz.func104, Tryz.ntmps104
  go_wp2_with fail
  generalize w.alloc (.cells #[.slice p l c] 56) = W at *
  have LAD := LA W.drew nA
  clear LA
  go_region_held3 (fun x => x.cell? ⟨w.heap.size, 0, none⟩ = some (.slice p l c)) (go_keep) (first
    | (go_at_call 130; refine (DG.mono ?_); rintro e w3 ⟨gt, cap2, rfl, o3, gr3, nb3, u3⟩; have s3 := gr3.cell s2 (fun e => by cases e))
    | (go_at_call 131; refine LAD.mono ?_; rintro e w2 ⟨g, cap, k, vals, rfl, k1, k8, kc, hlt, LR⟩; have b2 : Below W.drew.heap.size W.drew w2 := LR.bel; have s2 := (b2.cell (p := ⟨w.heap.size, 0, none⟩) lB).trans q0; have nA2 := nA.grow (bel' (Below.refl _ _).drew b2); have DG := digits_any k k1 (by omega) p l c A none 0 0 [] w2.heap.size g 0 cap w2 nA2 HP.out rfl (by have : 2 ^ k ≤ 2 ^ 8 := Nat.pow_le_pow_right (by decide) k8; simp; omega) (World.ownsRow_nil _ _ _ _) (Nat.le_refl _) (fun k e => by cases e) LR.ru kc; obtain ⟨K, hK⟩ : ∃ K, 19 * 2 ^ k = K := ⟨_, rfl⟩; rw [hK] at DG; simp only [List.length_nil, Nat.zero_add, List.nil_append] at DG)
    | fail)
  all_goals
    obtain ⟨T, _, _⟩ := Tr.of (l := pd A K) o3 u3
    have cv := run_convert_bytes_arg (P := Tryz.prog) w3 140 5 Tryz.underlying140 Tryz.underlying5 gt 0 K cap2 (pd A K) (pd_len A K) (fun i hi => by rw [Nat.zero_add]; exact T.cel i hi) 9 Tryz.underlying9
    have TL := Tryz.strings_TrimLeft_one (strOfNums (pd A K)) 48 (by decide)
    rw [trim_pd A K (by rw [← hK]; exact nDig_of hlt) (by omega)] at TL
    have bE : Below w.heap.size w w3 := bel' (bel' al (bel' (Below.refl _ _).drew b2)) ⟨gr3.os, gr3.tape, gr3.output, gr3.size, fun j hj => gr3.block j hj (by simp [Value.ownBlock])⟩
    clear T o3 u3 LR DG LAD nA nA2 gr3
    go_wp2_with (first | (go_at_call 132; go_must (refine (TL _).mono ?_; rintro e w4 ⟨rfl, hw⟩; subst w4)) | fail)
    go_ret
    exact ⟨rfl, bE⟩
end Go.Proofs.YtfalncbcomlelaaGreatDoor.Wt
