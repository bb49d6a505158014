import Derived.Test.YtiobnojcmeeikaaGreatDoorPart42
import Derived.Test.YtiobnojcmeeikaaGreatDoorPart36
import Derived.Test.YtiobnojcmeeikaaGreatDoorPart39

namespace Go.Proofs.YtiobnojcmeeikaaGreatDoor.Mo
open Go.RowKit Fu Tn Go.Lib

end Go.Proofs.YtiobnojcmeeikaaGreatDoor.Mo

namespace Go.Proofs.YtiobnojcmeeikaaGreatDoor.Mo
open Go.RowKit Fu Tn Go.Lib

end Go.Proofs.YtiobnojcmeeikaaGreatDoor.Mo

namespace Go.Proofs.YtiobnojcmeeikaaGreatDoor.Mo
open Go.RowKit Fu Tn Go.Lib Dc

theorem b48 {k : Nat} (h : k < 10) : (UInt8.ofNat (48 + k)).toNat = 48 + k := by
  rw [UInt8.toNat_ofNat']; omega
theorem dec_dg (u : Nat) : ∀ c ∈ decDigits u, Dc.Dg c := by
  induction u using Nat.strongRecOn with
  | ind u ih =>
    intro c hc
    rw [decDigits] at hc
    split at hc
    · rename_i h
      rw [List.mem_singleton] at hc
      rw [hc]; unfold Dc.Dg; rw [b48 h]; omega
    · rename_i h
      rcases List.mem_append.1 hc with hc | hc
      · exact ih _ (by omega) c hc
      · rw [List.mem_singleton] at hc
        rw [hc]; unfold Dc.Dg; rw [b48 (Nat.mod_lt _ (by decide))]; omega
theorem dec_num (u : Nat) : Dc.num (decDigits u) = u := by
  induction u using Nat.strongRecOn with
  | ind u ih =>
    rw [decDigits]
    split
    · rename_i h
      simp only [Dc.num, List.foldl_cons, List.foldl_nil]
      rw [b48 h]; omega
    · rename_i h
      rw [Dc.num_append, ih _ (by omega)]
      simp only [Dc.num, List.foldl_cons, List.foldl_nil, List.length_singleton]
      rw [b48 (Nat.mod_lt _ (by decide))]; omega
theorem dec_cons (u : Nat) : ∃ c t, decDigits u = c :: t ∧ (u < 10 → t = [] ∧ c.toNat = 48 + u) ∧ (0 < u → c.toNat ≠ 48) := by
  induction u using Nat.strongRecOn with
  | ind u ih =>
    rw [decDigits]
    split
    · rename_i h
      exact ⟨_, [], rfl, fun _ => ⟨rfl, b48 h⟩, fun h' => by rw [b48 h]; omega⟩
    · rename_i h
      obtain ⟨c, t, e, h1, h2⟩ := ih (u / 10) (by omega)
      exact ⟨c, t ++ [_], by rw [e]; rfl, fun h' => absurd h' h, fun _ => h2 (by omega)⟩
end Go.Proofs.YtiobnojcmeeikaaGreatDoor.Mo
