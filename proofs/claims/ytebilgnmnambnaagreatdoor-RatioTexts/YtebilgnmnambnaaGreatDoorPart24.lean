import Derived.Test.YtebilgnmnambnaaGreatDoorPart23
import Derived.Test.YtebilgnmnambnaaGreatDoorPart19
import Derived.Test.YtebilgnmnambnaaGreatDoorPart21

namespace Go.Proofs.YtebilgnmnambnaaGreatDoor.Mo
open Go.RowKit Dc Tn
theorem undrew {W w1 : World} (b : Below W.drew.heap.size W.drew w1) : Below W.heap.size W w1 := (show Below W.heap.size W W.drew from (Below.refl _ _).drew).trans b
end Go.Proofs.YtebilgnmnambnaaGreatDoor.Mo

namespace Go.Proofs.YtebilgnmnambnaaGreatDoor.Mo
open Go.RowKit Dc Tn
def goodE (n d : ByteArray) : Int := if shB n d = false then 5 else if 4096 < (rest n).size ∨ 4096 < d.size then 3 else if Int.gcd (Dc.num (rest n).data.toList : Int) (Dc.num d.data.toList : Int) ≠ 1 then 5 else 0
theorem natB_dg {s : ByteArray} (h : natB s = true) : ∀ c ∈ s.data.toList, Dc.Dg c := by
  unfold natB at h
  rw [Bool.and_eq_true, Bool.and_eq_true, List.all_eq_true] at h
  intro c hc
  have := h.1.1 c hc
  simp only [decide_eq_true_iff] at this
  exact this
theorem Read_any (n d : ByteArray) (w : World) (hn : n.size ≤ 9223372036854775807) (hd : d.size ≤ 9223372036854775807) :
    Calls Tryz.prog 47 #[.agg #[.string n, .string d]] w fun e w' => Below w.heap.size w w' ∧ ((goodE n d ≠ 0 ∧ e = .returned (noR (goodE n d))) ∨ (goodE n d = 0 ∧ ∃ v1 v2 xs ys, e = .returned (.tuple #[.agg #[.bool (neg n), v1, v2], .int .i64 0]) ∧ Rd w' v1 xs ∧ Nm xs ∧ val xs = (Dc.num (rest n).data.toList : Int) ∧ xs.length ≤ 400 ∧ Rd w' v2 ys ∧ Nm ys ∧ val ys = (Dc.num d.data.toList : Int) ∧ ys.length ≤ 400)) := by
  unfold goodE
  rcases h : shB n d with _ | _
  · refine (Read_shape n d w hn hd h).mono ?_
    rintro e w' ⟨rfl, b⟩
    exact ⟨b, Or.inl ⟨by simp, by simp⟩⟩
  · by_cases hl : 4096 < (rest n).size ∨ 4096 < d.size
    · refine (Read_long n d w hn hd h hl).mono ?_
      rintro e w' ⟨rfl, b⟩
      exact ⟨b, Or.inl ⟨by simp [hl], by simp [hl]⟩⟩
    · have h' := h
      unfold shB is0 is1 at h'
      rw [Bool.and_eq_true, Bool.and_eq_true, Bool.and_eq_true, Bool.not_eq_true', Bool.not_eq_true'] at h'
      obtain ⟨⟨⟨a1, a2⟩, a3⟩, a4⟩ := h'
      have dz : ∀ c ∈ (rest n).data.toList, Dc.Dg c := natB_dg (by unfold whB at a1; rw [Bool.and_eq_true] at a1; exact a1.1)
      refine (Read_num n d (neg n) (rest n) _ _ w (by omega) (by omega) dz (natB_dg a2) (fun W => by have := IsWhole_any n W hn; rw [a1] at this; exact this) (fun W => by have := IsNatural_any d W hd; rw [a2] at this; exact this) (fun W => CutSign_any n W hn) a3 rfl rfl a4).mono ?_
      rintro e w' ⟨c, b⟩
      refine ⟨b, ?_⟩
      rw [if_neg (by simp), if_neg hl]
      generalize Int.gcd (Dc.num (rest n).data.toList : Int) (Dc.num d.data.toList : Int) = q at c ⊢
      rcases c with ⟨c1, rfl⟩ | ⟨c1, c2⟩
      · exact Or.inl ⟨by simp [c1], by simp [c1]⟩
      · exact Or.inr ⟨by simp [c1], c2⟩
end Go.Proofs.YtebilgnmnambnaaGreatDoor.Mo

namespace Go.Proofs.YtebilgnmnambnaaGreatDoor.Mo
open Go.RowKit Dc Tn
theorem wpOp_skip {P : Program} {ops : Array Oper} {Q : Exit → Act → World → Prop} {i : Nat} {o : Oper} {K : Act → World → Prop} {a : Act} {w : World} (ho : ops[i]? = some o) (hw : Region.wanted o (yielded ops a.tmps) = false) (h : K (a.put o.dst undef) w) : wpOp P ops Q i K a w := by
  refine wpOp_step ho (fun K' hK => ?_)
  rw [if_neg (by simp [hw])]
  exact hK _ _ h
end Go.Proofs.YtebilgnmnambnaaGreatDoor.Mo

namespace Go.Proofs.YtebilgnmnambnaaGreatDoor.Mo
open Go.RowKit Dc Tn
theorem word_val {xs : List Int} (h : Wd xs) (hv : val xs < 18446744073709551616) : nth xs 0 = val xs := by
  cases xs with
  | nil => simp [nth, val]
  | cons x xs =>
    have h1 : Wd xs := fun y hy => h y (List.mem_cons_of_mem _ hy)
    have := val_nonneg h1
    have hx := (nth_bd h 0).1
    simp only [val, nth] at *
    simp at *
    omega
end Go.Proofs.YtebilgnmnambnaaGreatDoor.Mo
