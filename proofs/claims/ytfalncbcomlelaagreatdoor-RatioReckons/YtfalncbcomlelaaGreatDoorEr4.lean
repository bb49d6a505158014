import Derived.Test.YtfalncbcomlelaaGreatDoorEr3
namespace Go.Proofs.YtfalncbcomlelaaGreatDoor.Mo
open Go.RowKit Dc Tn

/-- What is wrong with an exact number; 0: nothing. -/
def goodE (n d : ByteArray) : Int := if shB n d = false then 5 else if 4096 < (rest n).size ∨ 4096 < d.size then 3 else if Int.gcd (Dc.num (rest n).data.toList : Int) (Dc.num d.data.toList : Int) ≠ 1 then 5 else 0
theorem natB_dg {s : ByteArray} (h : natB s = true) : ∀ c ∈ s.data.toList, Dc.Dg c := by
  unfold natB at h
  rw [Bool.and_eq_true, Bool.and_eq_true, List.all_eq_true] at h
  intro c hc
  have := h.1.1 c hc
  simp only [decide_eq_true_iff] at this
  exact this
theorem Read_any (n d : ByteArray) (w : World) (hn : n.size ≤ 9223372036854775807) (hd : d.size ≤ 9223372036854775807) :
    Calls Tryz.prog 23 #[.agg #[.string n, .string d]] w fun e w' => Below w.heap.size w w' ∧ ((goodE n d ≠ 0 ∧ e = .returned (noR (goodE n d))) ∨ (goodE n d = 0 ∧ ∃ v1 v2 xs ys, e = .returned (.tuple #[.agg #[.bool (neg n), v1, v2], .int .i64 0]) ∧ Rd w' v1 xs ∧ Nm xs ∧ val xs = (Dc.num (rest n).data.toList : Int) ∧ xs.length ≤ 400 ∧ Rd w' v2 ys ∧ Nm ys ∧ val ys = (Dc.num d.data.toList : Int) ∧ ys.length ≤ 400)) := by
  unfold goodE
  rcases h : shB n d with _ | _
  · refine (Read_shape n d w hn hd h).mono ?_
    rintro e w' ⟨rfl, b⟩
    exact ⟨b, Or.inl ⟨by simp, by simp⟩⟩
  · by_cases hl : 4096 < (rest n).size ∨ 4096 < d.size
    · refine (Read_long n d w hn hd h hl).mono ?_
      rintro e w' ⟨rfl, b⟩
      exact ⟨b, Or.inl ⟨by simp [hl], by simp [hl]⟩⟩
    · have h' := h
      unfold shB is0 is1 at h'
      rw [Bool.and_eq_true, Bool.and_eq_true, Bool.and_eq_true, Bool.not_eq_true', Bool.not_eq_true'] at h'
      obtain ⟨⟨⟨a1, a2⟩, a3⟩, a4⟩ := h'
      have dz : ∀ c ∈ (rest n).data.toList, Dc.Dg c := natB_dg (by unfold whB at a1; rw [Bool.and_eq_true] at a1; exact a1.1)
      refine (Read_num n d (neg n) (rest n) _ _ w (by omega) (by omega) dz (natB_dg a2) (fun W => by have := IsWhole_any n W hn; rw [a1] at this; exact this) (fun W => by have := IsNatural_any d W hd; rw [a2] at this; exact this) (fun W => CutSign_any n W hn) a3 rfl rfl a4).mono ?_
      rintro e w' ⟨c, b⟩
      refine ⟨b, ?_⟩
      rw [if_neg (by simp), if_neg hl]
      generalize Int.gcd (Dc.num (rest n).data.toList : Int) (Dc.num d.data.toList : Int) = q at c ⊢
      rcases c with ⟨c1, rfl⟩ | ⟨c1, c2⟩
      · exact Or.inl ⟨by simp [c1], by simp [c1]⟩
      · exact Or.inr ⟨by simp [c1], c2⟩
set_option maxRecDepth 100000 in
theorem Inverse_any (g : Bool) (a1 a2 : Option Addr) (m1 c1 m2 c2 : Nat) (w : World) :
    Calls Tryz.prog 43 #[.agg #[.bool g, .slice a1 m1 c1, .slice a2 m2 c2]] w fun e w' => e = .returned (.agg #[.bool g, .slice a2 m2 c2, .slice a1 m1 c1]) ∧ Below w.heap.size w w' := by
  go_enter Tryz.func43, Tryz.ntmps43
  go_wp2
  refine bodyPost_ret (v := .agg #[.bool g, .slice a2 m2 c2, .slice a1 m1 c1]) (by simp [results, Tryz.results43, go_sem]) rfl ⟨rfl, ?_⟩
  exact ((Below.refl _ _).alloc (Nat.le_refl _) _).alloc (by simp) _
end Go.Proofs.YtfalncbcomlelaaGreatDoor.Mo
