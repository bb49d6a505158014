import Derived.Test.YtfalncbcomlelaaGreatDoorEr8
import Derived.Test.YtfalncbcomlelaaGreatDoorBy
namespace Go.Proofs.YtfalncbcomlelaaGreatDoor.Mo
open Go.RowKit Dc Tn

theorem word_val {xs : List Int} (h : Wd xs) (hv : val xs < 18446744073709551616) : nth xs 0 = val xs := by
  cases xs with
  | nil => simp [nth, val]
  | cons x xs =>
    have h1 : Wd xs := fun y hy => h y (List.mem_cons_of_mem _ hy)
    have := val_nonneg h1
    have hx := (nth_bd h 0).1
    simp only [val, nth] at *
    simp at *
    omega
end Go.Proofs.YtfalncbcomlelaaGreatDoor.Mo
