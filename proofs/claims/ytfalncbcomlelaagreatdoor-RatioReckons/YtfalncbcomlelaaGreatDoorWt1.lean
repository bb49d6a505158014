import Derived.Test.YtfalncbcomlelaaGreatDoorProg
import Derived.Test.YtfalncbcomlelaaGreatDoorMem
namespace Go.Proofs.YtfalncbcomlelaaGreatDoor.Wt
open Go.RowKit Tn

/-- The byte of a group's digit: the i-th of nineteen. -/
def gd (G i : Nat) : Int := 48 + ((G / 10 ^ (18 - i) % 10 : Nat) : Int)
/-- n cells of block b from o on hold the bytes f. -/
def Cb (w : World) (b o n : Nat) (f : Nat → Int) : Prop := ∀ i, i < n → w.cell? ⟨b, o + i, none⟩ = some (.int .u8 (f i))
theorem wrapI (x : Int) (h0 : -9223372036854775808 ≤ x) (h1 : x < 9223372036854775808) : IntKind.i64.wrap x = x := by
  simp [IntKind.wrap, IntKind.bits, IntKind.signed]; omega
theorem wrapU (x : Int) (h0 : 0 ≤ x) (h1 : x < 18446744073709551616) : IntKind.u64.wrap x = x := by
  simp [IntKind.wrap, IntKind.bits, IntKind.signed]; omega
theorem wrapB (x : Int) (h0 : 0 ≤ x) (h1 : x < 256) : IntKind.u8.wrap x = x := by
  simp [IntKind.wrap, IntKind.bits, IntKind.signed]; omega

set_option maxRecDepth 100000 in
set_option maxHeartbeats 1600000 in
theorem putGroup_any (b o n c G : Nat) (w : World) (hG : G < 18446744073709551616) (hn : 19 ≤ n) (hnm : n ≤ 1099511627776) (g : Nat → Int) (hc : Cb w b o 19 g) (hF : Free w b o 19) :
    Calls Tryz.prog 158 #[.slice (some ⟨b, o, none⟩) n c, .int .u64 G] w fun e w' => e = .returned (.tuple #[]) ∧ Cb w' b o 19 (gd G) ∧ Wr b o 19 w w' := by
  go_enter Tryz.func158, Tryz.ntmps158
  go_wp2_with fail
  go_loopw [1, 5] (fun t i wr => ∃ k : Nat, k ≤ 19 ∧ i = .int .i64 k ∧ t = .int .u64 ((G / 10 ^ k : Nat) : Int) ∧ Hid (∀ j, j < 19 → 19 - k ≤ j → wr.cell? ⟨b, o + j, none⟩ = some (.int .u8 (gd G j))) ∧ Hid (∀ j, j < 19 → ∃ v, wr.cell? ⟨b, o + j, none⟩ = some (.int .u8 v)) ∧ Wr b o 19 w wr) (fun _ i _ => 19 - (intOf i).toNat)
  case atStart => exact ⟨0, by omega, rfl, by simp, fun j h1 h2 => absurd h1 (by omega), fun j hj => ⟨_, hc j hj⟩, Wr.refl _ _ _ _⟩
  case round =>
    obtain ⟨k, hk, rfl, rfl, hd, he, hw⟩ := hrel
    by_cases hlt : k < 19
    · obtain ⟨Q, hQ⟩ : ∃ Q : Nat, G / 10 ^ k = Q := ⟨_, rfl⟩
      have hQ2 : G / 10 ^ (k + 1) = Q / 10 := by rw [Nat.pow_succ, ← Nat.div_div_eq_div_mul, hQ]
      have hQb : Q < 18446744073709551616 := by rw [← hQ]; exact Nat.lt_of_le_of_lt (Nat.div_le_self _ _) hG
      obtain ⟨D, hD⟩ : ∃ D : Nat, Q % 10 = D := ⟨_, rfl⟩
      have hDb : D < 10 := by omega
      obtain ⟨J, hJ⟩ : ∃ J : Nat, 18 - k = J := ⟨_, rfl⟩
      have eg : gd G J = 48 + (D : Int) := by unfold gd; rw [show 18 - J = k by omega, hQ, hD]
      obtain ⟨v, hv⟩ := he.out J (by omega)
      have fr : wr.frozen? ⟨b, o + J, none⟩ = false := (hw.froz _).trans (hF J (by omega))
      have x1 : IntKind.i64.wrap (18 - (k : Int)) = (J : Int) := by rw [show (18 : Int) - (k : Int) = (J : Int) by omega]; exact wrapI _ (by omega) (by omega)
      have x2 : Int.tmod (Q : Int) 10 = (D : Int) := by rw [← hD]; rfl
      have x3 : IntKind.u64.wrap (D : Int) = (D : Int) := wrapU _ (by omega) (by omega)
      have x4 : IntKind.u64.wrap (48 + (D : Int)) = 48 + (D : Int) := wrapU _ (by omega) (by omega)
      have x5 : IntKind.u8.wrap (48 + (D : Int)) = 48 + (D : Int) := wrapB _ (by omega) (by omega)
      have x6 : Int.tdiv (Q : Int) 10 = ((Q / 10 : Nat) : Int) := rfl
      have x7 : IntKind.u64.wrap ((Q / 10 : Nat) : Int) = ((Q / 10 : Nat) : Int) := wrapU _ (by omega) (by omega)
      have y1 : (0 : Int) ≤ (J : Int) := by omega
      have y2 : ((J : Int)).toNat = J := by omega
      have y3 : (J : Int) < (n : Int) := by omega
      have bl := hw.size
      have N1 : Hid (∀ j, j < 19 → 19 - (k + 1) ≤ j → (wr.setCell ⟨b, o + J, none⟩ (.int .u8 (48 + (D : Int)))).cell? ⟨b, o + j, none⟩ = some (.int .u8 (gd G j))) := fun j h1 h2 => by
        by_cases e : j = J
        · subst e
          rw [eg]
          exact World.cell?_setCell_same _ _ _ hv
        · rw [World.cell?_setCell_other _ _ _ _ (by simp)]
          exact hd.out j h1 (by omega)
      have N2 : Hid (∀ j, j < 19 → ∃ v, (wr.setCell ⟨b, o + J, none⟩ (.int .u8 (48 + (D : Int)))).cell? ⟨b, o + j, none⟩ = some (.int .u8 v)) := fun j h1 => by
        by_cases e : j = J
        · subst e
          exact ⟨_, World.cell?_setCell_same _ _ _ hv⟩
        · rw [World.cell?_setCell_other _ _ _ _ (by simp)]
          exact he.out j h1
      have N3 := hw.setCell (o + J) (by omega) (.int .u8 (48 + (D : Int)))
      rw [hQ]
      clear hQ hD hJ eg
      go_wp2
      go_roundw
      case rel => exact ⟨k + 1, by omega, by go_num, by rw [hQ2]; simp, N1, N2, N3⟩
      case measure => simp [intOf]; omega
    · go_wp2
      go_end0
      exact ⟨rfl, fun j hj => hd.out j hj (by omega), hw⟩
end Go.Proofs.YtfalncbcomlelaaGreatDoor.Wt
