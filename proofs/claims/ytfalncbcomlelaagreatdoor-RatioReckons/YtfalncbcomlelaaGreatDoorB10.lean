import Derived.Test.YtfalncbcomlelaaGreatDoorB9
namespace Go.Proofs.YtfalncbcomlelaaGreatDoor.L
open Go.RowKit Tl

theorem own_grow {w w' : World} {base n : Nat} {e : TypeId} {v : Value} {xs : List Value} (h : w.ownsRow base e 1 v n xs) (k : Below w.heap.size w w') : w'.ownsRow base e 1 v n xs := by
  obtain ⟨h1, h2⟩ := h
  refine ⟨h1, ?_⟩
  rcases h2 with h2 | ⟨g, cap, cur, e1, e2, e3, e4⟩
  · exact Or.inl h2
  · exact Or.inr ⟨g, cap, cur, e1, e2, (k.block g (Own.lt ⟨cur, _, e3⟩)).trans e3, e4⟩
theorem own_rd {w : World} {base : Nat} {e : TypeId} {v : Value} {Y : List Int} (hY : Wd Y) (h : w.ownsRow base e 1 v Y.length (Y.map (Value.int .i64))) : Rd w v Y := by
  obtain ⟨_, h2⟩ := h
  rcases h2 with ⟨rfl, h2⟩ | ⟨g, cap, cur, rfl, _, e3, e4, e5, e6, e7⟩
  · have : Y = [] := List.eq_nil_of_length_eq_zero h2
    subst this
    exact rd_nil w
  · refine ⟨hY, _, _, rfl, e4, e5, fun _ => ⟨g, 0, rfl, ?_⟩⟩
    intro i hi
    rw [Nat.mul_one] at e7
    have h7 := congrArg (fun l : List Value => l[i]?) e7
    simp only [List.getElem?_take, hi, if_true, List.getElem?_map] at h7
    simp only [World.cell?, e3, Nat.zero_add, Option.isSome_none, Bool.false_eq_true, if_false]
    rw [Array.getElem?_toList] at h7
    rw [h7]
    simp [nth, List.getD_eq_getElem?_getD, List.getElem?_eq_getElem hi]
theorem of_step {Y : List Int} {m N : Int} (hY : Wd Y) (m0 : 0 < m) (hv : val Y + pw Y.length * m = N) :
    Wd (Y ++ [m % 1073741824]) ∧ val (Y ++ [m % 1073741824]) + pw (Y ++ [m % 1073741824]).length * (m / 1073741824) = N ∧ (m / 1073741824 ≠ 0 ∨ Nm (Y ++ [m % 1073741824])) := by
  refine ⟨hY.append (Wd.cons (by omega) (by omega) Wd.nil), ?_, ?_⟩
  · rw [val_append, List.length_append]
    simp only [List.length_singleton, pw, val]
    have e : m = m % 1073741824 + 1073741824 * (m / 1073741824) := by omega
    generalize m % 1073741824 = a at *
    generalize m / 1073741824 = b at *
    grind
  · by_cases h : m / 1073741824 = 0
    · right
      refine Or.inr ?_
      simp
      omega
    · exact Or.inl h
theorem of_len {Y : List Int} {m N : Int} (hY : Wd Y) (m0 : 0 < m) (hN : N < 18446744073709551616) (hv : val Y + pw Y.length * m = N) : Y.length ≤ 2 := by
  have v0 := val_nonneg hY
  by_cases h : Y.length ≤ 2
  · exact h
  · have p := pw_mono (show 3 ≤ Y.length by omega)
    have e : pw 3 = 1237940039285380274899124224 := by decide
    have q := Int.mul_le_mul_of_nonneg_left (show 1 ≤ m by omega) (Int.le_of_lt (pw_pos Y.length))
    omega
set_option maxHeartbeats 1600000 in
set_option maxRecDepth 100000 in
/-- NatOf of the reference. -/
theorem NatOf_any (N : Int) (w : World) (n0 : 0 ≤ N) (n1 : N < 9223372036854775808) :
    Calls Tryz.prog 75 #[.int .i64 N] w fun e w' => ∃ r zs, e = .returned r ∧ Rd w' r zs ∧ Nm zs ∧ val zs = N ∧ Below w.heap.size w w' := by
  go_enter Tryz.func75, Tryz.ntmps75
  go_wp2_with fail
  go_loopw [0, 3] (fun n l wr => ∃ (m : Int) (Y : List Int), n = .int .i64 m ∧ 0 ≤ m ∧ m ≤ N ∧ wr.ownsRow w.heap.size 3 1 l Y.length (Y.map (Value.int .i64)) ∧ Wd Y ∧ val Y + pw Y.length * m = N ∧ (m ≠ 0 ∨ Nm Y) ∧ Below w.heap.size w wr) (fun n _ _ => (intOf n).toNat)
  case atStart => exact ⟨N, [], rfl, n0, Int.le_refl _, ⟨by simp, Or.inl ⟨rfl, rfl⟩⟩, Wd.nil, by simp [val, pw], Or.inr (Or.inl rfl), Below.refl _ _⟩
  case round =>
    obtain ⟨m, Y, rfl, m0, m1, hown, hY, hv, hn, hb⟩ := hrel
    have HV : Hid (val Y + pw Y.length * m = N) := hv
    have HN : Hid (m ≠ 0 ∨ Nm Y) := hn
    clear hv hn
    by_cases hm : 0 < m
    · have R : Hid _ := of_step hY hm HV.out
      have L := of_len hY hm (by omega) HV.out
      have hsz := hb.size
      have u1 : m.tmod 1073741824 = m % 1073741824 := Int.tmod_eq_emod_of_nonneg m0
      have u2 : m.tdiv 1073741824 = m / 1073741824 := Int.tdiv_eq_ediv_of_nonneg m0
      go_wp2_with (first
        | (at_builtin; (refine wpList_push rfl _ _ rfl _ Y rfl w.heap.size (own_grow hown ((Below.refl _ _).alloc (Nat.le_refl _) _)) (by omega) _ _ (m % 1073741824) rfl (by simp) (by simp; omega) ?_; intro l' w2 hown2 hb2; have hb3 := (hb.alloc (Nat.le_trans (Nat.le_refl _) hsz) _).trans hb2))
        | fail)
      go_roundw
      case rel => exact ⟨m / 1073741824, _, rfl, by omega, by omega, hown2, R.out.1, R.out.2.1, R.out.2.2, hb3⟩
      case measure => simp [intOf]; omega
    · have e0 : m = 0 := by omega
      have Rv : Hid (val Y = N ∧ Nm Y) := by
        have h1 := HV.out
        rw [e0, Int.mul_zero, Int.add_zero] at h1
        exact ⟨h1, HN.out.resolve_left (by omega)⟩
      have hrd : Hid (Rd wr u3 Y) := own_rd hY hown
      clear e0 HV HN
      go_wp2
      go_ret
      exact ⟨_, rfl, Y, hrd.out, Rv.out.2, Rv.out.1, hb⟩
end Go.Proofs.YtfalncbcomlelaaGreatDoor.L
