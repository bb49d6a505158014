/- Plain: digits with noughts ahead. -/
import Derived.Test.YthadighbhdekdaaDoorDp
namespace Go.Proofs.YthadighbhdekdaaDoor.Dt
open Go.Lib
def pad2 (n : Nat) : List UInt8 := [UInt8.ofNat (48 + n / 10 % 10), UInt8.ofNat (48 + n % 10)]
def pad4 (n : Nat) : List UInt8 := [UInt8.ofNat (48 + n / 1000 % 10), UInt8.ofNat (48 + n / 100 % 10), UInt8.ofNat (48 + n / 10 % 10), UInt8.ofNat (48 + n % 10)]
theorem dec3 (r : Nat) (h : r < 100) : decDigits (100 + r) = 49 :: pad2 r := by
  rw [decDigits, dif_neg (by omega), decDigits, dif_neg (by omega), decDigits, dif_pos (by omega)]
  have e1 : (100 + r) / 10 / 10 = 1 := by omega
  have e2 : (100 + r) / 10 % 10 = r / 10 % 10 := by omega
  have e3 : (100 + r) % 10 = r % 10 := by omega
  rw [e1, e2, e3]
  rfl
theorem dec5 (r : Nat) (h : r < 10000) : decDigits (10000 + r) = 49 :: pad4 r := by
  rw [decDigits, dif_neg (by omega), decDigits, dif_neg (by omega), decDigits, dif_neg (by omega), decDigits, dif_neg (by omega), decDigits, dif_pos (by omega)]
  have e1 : (10000 + r) / 10 / 10 / 10 / 10 = 1 := by omega
  have e2 : (10000 + r) / 10 / 10 / 10 % 10 = r / 1000 % 10 := by omega
  have e3 : (10000 + r) / 10 / 10 % 10 = r / 100 % 10 := by omega
  have e4 : (10000 + r) / 10 % 10 = r / 10 % 10 := by omega
  have e5 : (10000 + r) % 10 = r % 10 := by omega
  rw [e1, e2, e3, e4, e5]
  rfl
theorem fill2 (n : Nat) (h : n < 100) : List.replicate (2 - nDigits n) 48 ++ decDigits n = pad2 n := by
  by_cases c : n < 10
  · rw [nDigits_small c, decDigits_one c]
    unfold pad2
    rw [show n / 10 % 10 = 0 by omega, show n % 10 = n by omega]
    rfl
  · rw [nDigits_big c, nDigits_small (by omega), decDigits, dif_neg c, decDigits, dif_pos (by omega)]
    unfold pad2
    rw [show n / 10 % 10 = n / 10 by omega]
    rfl
theorem fill4 (n : Nat) (h : n < 10000) : List.replicate (4 - nDigits n) 48 ++ decDigits n = pad4 n := by
  unfold pad4
  by_cases c : n < 10
  · rw [nDigits_small c, decDigits_one c]
    rw [show n / 1000 % 10 = 0 by omega, show n / 100 % 10 = 0 by omega, show n / 10 % 10 = 0 by omega, show n % 10 = n by omega]
    rfl
  by_cases c2 : n / 10 < 10
  · rw [nDigits_big c, nDigits_small c2, decDigits, dif_neg c, decDigits, dif_pos c2]
    rw [show n / 1000 % 10 = 0 by omega, show n / 100 % 10 = 0 by omega, show n / 10 % 10 = n / 10 by omega]
    rfl
  by_cases c3 : n / 10 / 10 < 10
  · rw [nDigits_big c, nDigits_big c2, nDigits_small c3, decDigits, dif_neg c, decDigits, dif_neg c2, decDigits, dif_pos c3]
    rw [show n / 1000 % 10 = 0 by omega, show n / 100 % 10 = n / 10 / 10 by omega]
    rfl
  · rw [nDigits_big c, nDigits_big c2, nDigits_big c3, nDigits_small (by omega), decDigits, dif_neg c, decDigits, dif_neg c2, decDigits, dif_neg c3, decDigits, dif_pos (by omega)]
    rw [show n / 1000 % 10 = n / 10 / 10 / 10 by omega, show n / 100 % 10 = n / 10 / 10 % 10 by omega]
    rfl
theorem nd2 (n : Nat) (h : n < 100) : nDigits n ≤ 2 := Dc.nDigits_le (by decide) h
theorem nd4 (n : Nat) (h : n < 10000) : nDigits n ≤ 4 := Dc.nDigits_le (by decide) h
end Go.Proofs.YthadighbhdekdaaDoor.Dt
