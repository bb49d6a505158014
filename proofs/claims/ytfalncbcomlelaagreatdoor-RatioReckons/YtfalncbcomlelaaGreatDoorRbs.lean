import Derived.Test.YtfalncbcomlelaaGreatDoorEr11
namespace Go.Proofs.YtfalncbcomlelaaGreatDoor.Mo
open Go.RowKit Fu Tn Go.Lib Dc

theorem Rb.ofB {x : World} {n : Nat} {a b c : Value} {t : TypeId} (K : Blk x n #[a, b, c] t) : Rb x n a b c := ⟨by have := K.at 0; simpa using this, by have := K.at 1; simpa using this, by have := K.at 2; simpa using this, K.free 0, K.free 1, K.free 2, t, K⟩
theorem Rb.sets {W : World} {n : Nat} {a b c : Value} (h : Rb W n a b c) (x y z : Value) : Rb (((W.setCell ⟨n, 0, none⟩ x).setCell ⟨n, 1, none⟩ y).setCell ⟨n, 2, none⟩ z) n x y z := by
  obtain ⟨t, K⟩ := h.bk
  have := bput (bput (bput K 0 x) 1 y) 2 z
  exact Rb.ofB (t := t) (by simpa using this)
theorem Rb.skip3 {W : World} {n m : Nat} {a b c : Value} (h : Rb W n a b c) (ne : n ≠ m) (x y z : Value) : Rb (((W.setCell ⟨m, 0, none⟩ x).setCell ⟨m, 1, none⟩ y).setCell ⟨m, 2, none⟩ z) n a b c := by
  have k : Wr m 0 3 W (((W.setCell ⟨m, 0, none⟩ x).setCell ⟨m, 1, none⟩ y).setCell ⟨m, 2, none⟩ z) := (((Wr.refl m 0 3 W).setCell 0 (by omega) x).setCell 1 (by omega) y).setCell 2 (by omega) z
  obtain ⟨t, K⟩ := h.bk
  have K2 := K.wr k ne
  exact ⟨K2.at 0, K2.at 1, K2.at 2, K2.free 0, K2.free 1, K2.free 2, t, K2⟩
end Go.Proofs.YtfalncbcomlelaaGreatDoor.Mo
