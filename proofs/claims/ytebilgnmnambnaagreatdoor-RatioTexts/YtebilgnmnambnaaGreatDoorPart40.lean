import Derived.Test.YtebilgnmnambnaaGreatDoorPart39
import Derived.Test.YtebilgnmnambnaaGreatDoorPart30
import Derived.Test.YtebilgnmnambnaaGreatDoorPart13
import Derived.Test.YtebilgnmnambnaaGreatDoorPart10
import Derived.Test.YtebilgnmnambnaaGreatDoorPart34
import Derived.Test.YtebilgnmnambnaaGreatDoorPart37
import Derived.Test.YtebilgnmnambnaaGreatDoorPart06
import Derived.Lib.Repeat
import Derived.Deep.RegionHeld3
import Derived.Deep.DeepCutAuto
import Derived.Test.YtebilgnmnambnaaGreatDoorPart12
import Derived.Test.YtebilgnmnambnaaGreatDoorPart36
import Derived.Test.YtebilgnmnambnaaGreatDoorPart27

namespace Go.Proofs.YtebilgnmnambnaaGreatDoor.Mo
open Go.RowKit Tn Dc
set_option maxRecDepth 100000 in
theorem RAll_yes (s : ByteArray) (w : World) (hs : s.size ≤ 9223372036854775807) (h : Digs s) :
    Calls Tryz.prog 77 #[.string s] w fun e w' => e = .returned (.bool true) ∧ w' = w := by
  have he : Hid (s.toList.isEmpty = false) := by show _ = _; rw [empty_iff, decide_eq_false_iff_not]; have := h.1; omega
  go_enter Tryz.func77, Tryz.ntmps77
  go_wp2_with fail
  go_loopw [3] (fun i wr => ∃ k : Nat, k ≤ s.size ∧ i = .int .i64 k ∧ wr = w) (fun i _ => s.size - (intOf i).toNat)
  case atStart => exact ⟨0, Nat.zero_le _, rfl, rfl⟩
  case round =>
    obtain ⟨k, hk, rfl, rfl⟩ := hrel
    by_cases hlt : k < s.size
    · obtain ⟨d1, d2⟩ := h.2 k hlt
      go_wp2
      go_roundw
      case rel => exact ⟨k + 1, by omega, by go_num, trivial⟩
      case measure => simp [intOf]; omega
    · go_wp2
      go_ret
      exact ⟨by rw [he.out]; rfl, rfl⟩
set_option maxRecDepth 100000 in
theorem RAll_no (s : ByteArray) (w : World) (hs : s.size ≤ 9223372036854775807) (h : ¬ Digs s) :
    Calls Tryz.prog 77 #[.string s] w fun e w' => e = .returned (.bool false) ∧ w' = w := by
  have H : Hid (¬ Digs s) := h
  clear h
  go_enter Tryz.func77, Tryz.ntmps77
  go_wp2_with fail
  go_loopw [3] (fun i wr => ∃ k : Nat, k ≤ s.size ∧ i = .int .i64 k ∧ Hid (∀ j (h : j < s.size), j < k → Go.Proofs.YtebilgnmnambnaaGreatDoor.Dg s[j]) ∧ wr = w) (fun i _ => s.size - (intOf i).toNat)
  case atStart => exact ⟨0, Nat.zero_le _, rfl, fun j _ hj => absurd hj (by omega), rfl⟩
  case round =>
    obtain ⟨k, hk, rfl, hd, rfl⟩ := hrel
    by_cases hlt : k < s.size
    · by_cases hg : Go.Proofs.YtebilgnmnambnaaGreatDoor.Dg s[k]
      · have N : Hid (∀ j (h : j < s.size), j < k + 1 → Go.Proofs.YtebilgnmnambnaaGreatDoor.Dg s[j]) := fun j hj hjk => by
          by_cases e : j = k
          · subst e; exact hg
          · exact hd.out j hj (by omega)
        obtain ⟨d1, d2⟩ := hg
        go_wp2
        go_roundw
        case rel => exact ⟨k + 1, by omega, by go_num, N, trivial⟩
        case measure => simp [intOf]; omega
      · have hg' : (s[k].toNat : Int) < 48 ∨ 57 < (s[k].toNat : Int) := by unfold Go.Proofs.YtebilgnmnambnaaGreatDoor.Dg at hg; omega
        clear hg
        rcases hg' with hg | hg
        · go_wp2
          go_ret
          exact ⟨rfl, rfl⟩
        · go_wp2
          go_ret
          exact ⟨rfl, rfl⟩
    · have z : s.size = 0 := by
        rcases Nat.eq_zero_or_pos s.size with z | z
        · exact z
        · exact absurd ⟨z, fun i hi => hd.out i hi (by omega)⟩ H.out
      have he : Hid (s.toList.isEmpty = true) := by show _ = _; rw [empty_iff, decide_eq_true_iff]; exact z
      go_wp2
      go_ret
      exact ⟨by rw [he.out]; rfl, rfl⟩
theorem get_some (s : ByteArray) (j : Nat) (h : j < s.size) : s.data.toList[j]? = some s[j] := by
  rw [List.getElem?_eq_getElem (by simpa using h)]
  rfl
theorem get_none (s : ByteArray) (j : Nat) (h : ¬ j < s.size) : s.data.toList[j]? = none := by
  rw [List.getElem?_eq_none]
  have : s.data.toList.length = s.size := by simp
  omega
theorem cut_none {s : ByteArray} {c : UInt8} (h : ∀ (j : Nat) (h : j < s.size), s[j] ≠ c) : Go.Lib.cut s.data.toList [c] = (s.data.toList, [], false) := by
  unfold Go.Lib.cut
  rw [Go.Lib.index_one]
  split
  · next g =>
    obtain ⟨o, ho⟩ : ∃ o : Nat, Go.Lib.indexByte s.data.toList c = o := ⟨_, (Int.toNat_of_nonneg g).symm⟩
    obtain ⟨a, _⟩ := Go.Lib.indexByte_some ho
    by_cases z : o < s.size
    · rw [get_some s o z] at a
      exact absurd (Option.some.inj a) (h o z)
    · rw [get_none s o z] at a
      cases a
  · rfl
theorem cut_at {s : ByteArray} {c : UInt8} {i : Nat} (hi : i < s.size) (hc : s[i] = c) (h : ∀ (j : Nat) (h : j < s.size), j < i → s[j] ≠ c) : Go.Lib.cut s.data.toList [c] = (s.data.toList.take i, s.data.toList.drop (i + 1), true) := by
  have e : Go.Lib.indexByte s.data.toList c = i := by
    rcases Int.lt_or_le (Go.Lib.indexByte s.data.toList c) 0 with g | g
    · have g' : Go.Lib.indexByte s.data.toList c = -1 := by have := Go.Lib.indexByte_ge s.data.toList c; omega
      have := Go.Lib.indexByte_none g' i
      rw [get_some s i hi, hc] at this
      exact absurd rfl this
    · obtain ⟨o, ho⟩ : ∃ o : Nat, Go.Lib.indexByte s.data.toList c = o := ⟨_, (Int.toNat_of_nonneg g).symm⟩
      obtain ⟨a, b⟩ := Go.Lib.indexByte_some ho
      rw [ho]
      rcases Nat.lt_trichotomy o i with l | l | l
      · have z : o < s.size := by omega
        rw [get_some s o z] at a
        exact absurd (Option.some.inj a) (h o z l)
      · rw [l]
      · have := b i l
        rw [get_some s i hi, hc] at this
        exact absurd rfl this
  unfold Go.Lib.cut
  rw [Go.Lib.index_one, e, if_pos (by omega)]
  rfl
theorem ex_take (s : ByteArray) (i : Nat) : (⟨(s.data.toList.take i).toArray⟩ : ByteArray) = s.extract 0 i := by
  apply ByteArray.ext
  apply Array.toList_inj.1
  simp
theorem ex_drop (s : ByteArray) (i : Nat) : (⟨(s.data.toList.drop i).toArray⟩ : ByteArray) = s.extract i s.size := by
  apply ByteArray.ext
  apply Array.toList_inj.1
  simp
  rw [List.take_of_length_le]
  simp
theorem Cut_none (s : ByteArray) (c : UInt8) (m : Int) (w : World) (hs : s.size ≤ 65536) (hm : w.cell? ⟨3, 0, none⟩ = some (.int .i64 m)) (h : ∀ (j : Nat) (h : j < s.size), s[j] ≠ c) :
    Calls Tryz.prog 138 #[.string s, .string ⟨#[c]⟩] w fun e w' => e = .returned (.tuple #[.string s, .string ⟨#[]⟩, .bool false]) ∧ Below w.heap.size w w' := by
  refine (Tryz.strings_Cut s ⟨#[c]⟩ m w (by omega) hm).mono ?_
  rintro e w' ⟨rfl, n, rfl⟩
  refine ⟨?_, below_drewN (Below.refl _ _) n⟩
  have := cut_none h
  rw [show (⟨#[c]⟩ : ByteArray).data.toList = [c] from rfl, this]
theorem Cut_at (s : ByteArray) (c : UInt8) (i : Nat) (m : Int) (w : World) (hs : s.size ≤ 65536) (hm : w.cell? ⟨3, 0, none⟩ = some (.int .i64 m)) (hi : i < s.size) (hc : s[i] = c) (h : ∀ (j : Nat) (h : j < s.size), j < i → s[j] ≠ c) :
    Calls Tryz.prog 138 #[.string s, .string ⟨#[c]⟩] w fun e w' => e = .returned (.tuple #[.string (s.extract 0 i), .string (s.extract (i + 1) s.size), .bool true]) ∧ Below w.heap.size w w' := by
  refine (Tryz.strings_Cut s ⟨#[c]⟩ m w (by omega) hm).mono ?_
  rintro e w' ⟨rfl, n, rfl⟩
  refine ⟨?_, below_drewN (Below.refl _ _) n⟩
  have := cut_at hi hc h
  rw [show (⟨#[c]⟩ : ByteArray).data.toList = [c] from rfl, this, ex_take, ex_drop]
theorem trim_at (s : ByteArray) : ∃ k, k ≤ s.size ∧ (∀ (j : Nat) (h : j < s.size), k ≤ j → s[j] = 48) ∧ Go.Lib.trimRightB s.data.toList 48 = s.data.toList.take k := by
  have H : ∀ m ≤ s.size, (∀ (j : Nat) (h : j < s.size), m ≤ j → s[j] = 48) → ∃ k, k ≤ s.size ∧ (∀ (j : Nat) (h : j < s.size), k ≤ j → s[j] = 48) ∧ Go.Lib.trimRightB s.data.toList 48 = s.data.toList.take k := by
    intro m
    induction m with
    | zero => exact fun z h => ⟨0, z, h, Go.Lib.trimRightB_take _ _ 0 (by omega) (fun j b _ hb => by
        by_cases y : j < s.size
        · rw [get_some s j y] at hb; rw [← Option.some.inj hb]; exact h j y (by omega)
        · rw [get_none s j y] at hb; cases hb) (fun b h0 => absurd h0 (by omega))⟩
    | succ m ih =>
      intro z h
      by_cases q : s[m] = 48
      · exact ih (by omega) (fun j hj hm => by
          by_cases e : j = m
          · subst e; exact q
          · exact h j hj (by omega))
      · refine ⟨m + 1, z, h, Go.Lib.trimRightB_take _ _ _ (by simpa using z) (fun j b hj hb => ?_) (fun b _ hb => ?_)⟩
        · by_cases y : j < s.size
          · rw [get_some s j y] at hb; rw [← Option.some.inj hb]; exact h j y hj
          · rw [get_none s j y] at hb; cases hb
        · rw [Nat.add_sub_cancel, get_some s m (by omega)] at hb
          rw [← Option.some.inj hb]; exact q
  exact H s.size (Nat.le_refl _) (fun j h1 h2 => absurd h1 (by omega))
theorem TrimRight_at (s : ByteArray) (hs : s.size ≤ 65536) : ∃ k, k ≤ s.size ∧ (∀ (j : Nat) (h : j < s.size), k ≤ j → s[j] = 48) ∧ ∀ w, Calls Tryz.prog 183 #[.string s, .string ⟨#[48]⟩] w fun e w' => e = .returned (.string (s.extract 0 k)) ∧ w' = w := by
  obtain ⟨k, k1, k2, k3⟩ := trim_at s
  refine ⟨k, k1, k2, fun w => ?_⟩
  have := Tryz.strings_TrimRight_one s 48 (by decide) w (by omega)
  rwa [k3, ex_take] at this
end Go.Proofs.YtebilgnmnambnaaGreatDoor.Mo

namespace Go.Proofs.YtebilgnmnambnaaGreatDoor.Mo
open Go.RowKit Fu Tn Go.Lib Dc
theorem rd_ten {w : World} {n : Nat} (h : w.cell? ⟨n, 0, none⟩ = some (.int .i64 10)) : L.Rd w (.slice (some ⟨n, 0, none⟩) 1 1) [10] := by
  refine ⟨Tl.Wd.cons (by decide) (by decide) Tl.Wd.nil, _, 1, rfl, by decide, by decide, fun _ => ⟨n, 0, rfl, ?_⟩⟩
  intro i hi
  have : i = 0 := by simp at hi; omega
  subst this
  simpa [L.nth] using h
theorem Ten_n (p : Nat) (K : Nat) (w : World) (hn : p < 9223372036854775808) (hp : ((10 ^ p : Nat) : Int) < Tl.pw K) (hk : 1 < Tl.pw K) (hK : K ≤ 274877906944) :
    Calls Tryz.prog 70 #[.int .i64 (p : Int)] w fun e w' => ∃ a l c, e = .returned (.slice a l c) ∧ Nl w' a l c ((10 ^ p : Nat) : Int) ∧ Below w.heap.size w w' := by
  have al := (Below.refl w.heap.size w).alloc (Nat.le_refl _) (.cells #[.int .i64 10] 3)
  have r1 : L.Rd (w.alloc (.cells #[.int .i64 10] 3)) (.slice (some ⟨w.heap.size, 0, none⟩) 1 1) [10] := rd_ten (by simp)
  have v10 : Tl.val [10] = 10 := by decide
  go_enter Tryz.func70, Tryz.ntmps70
  go_wp2_with (first
    | (go_at_call 114; (refine (L.Pow_any _ [10] p K _ r1 (Or.inr (by simp)) hn (by rw [v10]; exact_mod_cast hp) hk hK).mono ?_); (rintro e w1 ⟨u, zs, rfl, q1, n1, v1, b1⟩); (obtain ⟨a, l, c, hu⟩ : ∃ a l c, u = .slice a l c := by (obtain ⟨_, a, c, e, _⟩ := q1; exact ⟨a, _, c, e⟩)); (subst hu))
    | fail)
  go_ret
  exact ⟨a, l, c, rfl, ⟨zs, q1, n1, by rw [v1, v10]; norm_cast⟩, bel' al b1⟩
end Go.Proofs.YtebilgnmnambnaaGreatDoor.Mo

namespace Go.Proofs.YtebilgnmnambnaaGreatDoor.Mo
open Go.RowKit Fu Tn Go.Lib Ip
theorem PF.putF {w : World} {n : Nat} {v : Value} {r : Rat} {x y z : Value} {g : Bool} {a1 a2 : Option Addr} {n1 c1 n2 c2 : Nat} (h : PF w v r) (R : Rb w n (.bool g) (.slice a1 n1 c1) (.slice a2 n2 c2)) : PF (((w.setCell ⟨n, 0, none⟩ x).setCell ⟨n, 1, none⟩ y).setCell ⟨n, 2, none⟩ z) v r := by
  obtain ⟨a, l, c, a', l', c', e, h1, h2⟩ := h
  exact ⟨a, l, c, a', l', c', e, h1.putF R, h2.putF R⟩
end Go.Proofs.YtebilgnmnambnaaGreatDoor.Mo
