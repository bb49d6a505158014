import Derived.Test.YtfalncbcomlelaaGreatDoorTx3
import Derived.Test.YtfalncbcomlelaaGreatDoorB19
import Derived.Test.YtfalncbcomlelaaGreatDoorLn
import Derived.Test.YtfalncbcomlelaaGreatDoorDp
import Derived.Laws.Strings
namespace Go.Proofs.YtfalncbcomlelaaGreatDoor.L
open Go.RowKit Tl Go.Lib

theorem ten_pw (n : Nat) : ((10 ^ n : Nat) : Int) ≤ pw n := by
  induction n with
  | zero => decide
  | succ n ih =>
    rw [Nat.pow_succ]
    simp only [pw]
    omega
/-- Where the inner loop of Read stands: the number of j digits from a on. -/
def Rs (l : List UInt8) (a j : Nat) (v u : Int) : Prop := v = (Dc.num ((l.drop a).take j) : Int) ∧ u = ((10 ^ j : Nat) : Int)
theorem Rs.next {l : List UInt8} {a j : Nat} {v u : Int} (h : Rs l a j v u) (hj : a + j < l.length) : Rs l a (j + 1) (v * 10 + (((l[a + j]).toNat - 48 : Nat) : Int)) (u * 10) := by
  obtain ⟨rfl, rfl⟩ := h
  refine ⟨?_, by rw [Nat.pow_succ]; simp⟩
  rw [Dc.num_take _ _ (by rw [List.length_drop]; omega)]
  simp
theorem Rs.bd {l : List UInt8} {a j : Nat} {v u : Int} (h : Rs l a j v u) (hd : ∀ c ∈ l, Dc.Dg c) (hj : a + j ≤ l.length) (h9 : j ≤ 9) : 0 ≤ v ∧ v < 1000000000 ∧ 0 < u ∧ u ≤ 1000000000 := by
  obtain ⟨rfl, rfl⟩ := h
  have a1 := Dc.num_lt ((l.drop a).take j) (fun c hc => hd c (List.mem_of_mem_drop (List.mem_of_mem_take hc)))
  rw [List.length_take, List.length_drop, Nat.min_eq_left (by omega)] at a1
  have b1 : 10 ^ j ≤ 10 ^ 9 := Nat.pow_le_pow_right (by decide) h9
  have b2 : 0 < 10 ^ j := Nat.pow_pos (by decide)
  omega

set_option maxHeartbeats 3200000 in
set_option maxRecDepth 100000 in
/-- Read of the reference: the number of decimal digits. -/
theorem BRead_any (s : ByteArray) (w : World) (hs : s.size ≤ 1000000000) (hd : ∀ c ∈ s.data.toList, Dc.Dg c) :
    Calls Tryz.prog 36 #[.string s] w fun e w' => ∃ v zs, e = .returned v ∧ Rd w' v zs ∧ Nm zs ∧ val zs = (Dc.num s.data.toList : Int) ∧ zs.length ≤ s.size ∧ Below w.heap.size w w' := by
  have hl : Hid (s.data.toList.length = s.size) := by show _ = _; simp
  have HD : Hid (∀ c ∈ s.data.toList, Dc.Dg c) := hd
  clear hd
  go_enter Tryz.func36, Tryz.ntmps36
  go_wp2_with fail
  go_loopw [3, 4] (fun o p wr => ∃ (a : Nat) (xs : List Int), a ≤ s.size ∧ p = .int .i64 a ∧ Rd wr o xs ∧ Nm xs ∧ val xs = (Dc.num (s.data.toList.take a) : Int) ∧ xs.length ≤ a ∧ Below w.heap.size w wr) (fun _ p _ => s.size - (intOf p).toNat)
  case atStart => exact ⟨0, [], by omega, rfl, rd_nil _, Or.inl rfl, by simp [val, Dc.num], by simp, Below.refl _ _⟩
  case round =>
    obtain ⟨a, xs, ha, rfl, hr, hn, hv, hxl, hb⟩ := hrel
    have HV : Hid (val xs = (Dc.num (s.data.toList.take a) : Int)) := hv
    clear hv
    have hsz := hb.size
    by_cases hlt : a < s.size
    · obtain ⟨n, hn9⟩ : ∃ n : Nat, min 9 (s.size - a) = n := ⟨_, rfl⟩
      have hm : (if (s.size : Int) - (a : Int) < 9 then (s.size : Int) - (a : Int) else 9) = (n : Int) := by split <;> omega
      have n1 : n ≤ 9 := by omega
      have n2 : a + n ≤ s.size := by omega
      have n3 : 0 < n := by omega
      clear hn9
      go_wp2_with fail
      go_loop [6, 7, 8] (fun v u i => ∃ (j : Nat) (x y : Int), j ≤ n ∧ i = .int .i64 ((a : Int) + j) ∧ v = .int .i64 x ∧ u = .int .i64 y ∧ Rs s.data.toList a j x y) (fun _ _ i => a + n - (intOf i).toNat)
      case atStart => exact ⟨0, 0, 1, by omega, by simp, rfl, rfl, by simp [Dc.num], by simp⟩
      case round =>
        obtain ⟨j, x, y, hj, rfl, rfl, rfl, S⟩ := hrel
        have HS : Hid (Rs s.data.toList a j x y) := S
        obtain ⟨x0, x1, y0, y1⟩ := S.bd HD.out (by rw [hl.out]; omega) (by omega)
        clear S
        by_cases hjn : j < n
        · have hk : a + j < s.size := by omega
          have NX : Hid _ := HS.out.next (by rw [hl.out]; omega)
          have dg := HD.out s[a + j] (List.getElem_mem _)
          unfold Dc.Dg at dg
          have hc : Hid (((s[a + j].toNat : Int) - 48) = (((s.data.toList[a + j]'(by rw [hl.out]; omega)).toNat - 48 : Nat) : Int)) := by
            show _ = _
            have : s.data.toList[a + j]'(by rw [hl.out]; omega) = s[a + j] := rfl
            rw [this]
            omega
          have ei : ((a : Int) + j).toNat = a + j := by omega
          have ei0 : (0 : Int) ≤ (a : Int) + j := by omega
          have ei1 : (a : Int) + j < s.size := by omega
          have wc : IntKind.u8.wrap ((s[a + j].toNat : Int) - 48) = (s[a + j].toNat : Int) - 48 := by simp [IntKind.wrap, IntKind.bits, IntKind.signed]; omega
          go_wp2
          go_round
          case rel => exact ⟨j + 1, x * 10 + ((s[a + j].toNat : Int) - 48), y * 10, by omega, by go_num, rfl, rfl, by rw [hc.out]; exact NX.out⟩
          case measure => simp [intOf]; omega
        · obtain rfl : j = n := by omega
          have hnum : Hid (Dc.num (s.data.toList.take (a + j)) = Dc.num (s.data.toList.take a) * 10 ^ j + Dc.num ((s.data.toList.drop a).take j)) := by
            show _ = _
            rw [List.take_add, Dc.num_append, List.length_take, List.length_drop, hl.out, Nat.min_eq_left (by omega)]
          have p1 : pw 1 = 1073741824 := by decide
          have P1 : Hid (pw 1 = 1073741824) := p1
          clear p1
          go_wp2_with (first
            | (go_at_call 75; ((with_reducible refine (NatOf_any y _ (by omega) (by omega)).mono ?_); rintro e w2 ⟨r2, zs2, rfl, hz2, nz2, vz2, b2⟩; have l2 : zs2.length ≤ 1 := len_of_lt hz2.1 nz2 (by rw [P1.out, vz2]; omega); have V2 : Hid (val zs2 = y) := vz2; clear vz2; have hr2 := hr.grow b2))
            | (go_at_call 75; ((with_reducible refine (NatOf_any x _ (by omega) (by omega)).mono ?_); rintro e w4 ⟨r4, zs4, rfl, hz4, nz4, vz4, b4⟩; have l4 : zs4.length ≤ 1 := len_of_lt hz4.1 nz4 (by rw [P1.out, vz4]; omega); have V4 : Hid (val zs4 = x) := vz4; clear vz4; have hz3' := hz3.grow b4))
            | (go_at_call 71; ((with_reducible refine (Mul_any _ _ xs zs2 _ hr2 hz2 (by omega) (by omega)).mono ?_); rintro e w3 ⟨r3, zs3, rfl, hz3, nz3, vz3, b3⟩; have l3 : zs3.length ≤ xs.length + zs2.length := mul_len hr2.1 hz2.1 hz3.1 nz3 vz3; have V3 : Hid (val zs3 = val xs * val zs2) := vz3; clear vz3))
            | (go_at_call 73; ((with_reducible refine (Add_any _ _ zs3 zs4 _ hz3' hz4 (by omega) (by omega)).mono ?_); rintro e w5 ⟨r5, zs5, rfl, hz5, nz5, vz5, b5⟩; have V5 : Hid (val zs5 = val zs3 + val zs4) := vz5; clear vz5)))
          go_roundw
          case rel =>
            have ev : val zs5 = (Dc.num (s.data.toList.take (a + j)) : Int) := by
              rw [V5.out, V4.out, V3.out, V2.out, HV.out, hnum.out, HS.out.1, HS.out.2]
              simp
            have lt := Dc.num_lt_take s.data.toList HD.out (a + j) (by rw [hl.out]; omega)
            have tp := ten_pw (a + j)
            refine ⟨a + j, zs5, by omega, by go_num, hz5, nz5, ev, len_of_lt hz5.1 nz5 (by rw [ev]; omega), ?_⟩
            exact hb.trans (((b2.trans (b3.mono b2.size)).trans (b4.mono (Nat.le_trans b2.size b3.size))).trans (b5.mono (Nat.le_trans (Nat.le_trans b2.size b3.size) b4.size)) |>.mono hsz)
          case measure => simp [intOf]; omega
    · obtain rfl : a = s.size := by omega
      go_wp2
      go_ret
      refine ⟨_, xs, rfl, hr, hn, ?_, hxl, hb⟩
      rw [HV.out, List.take_of_length_le (by rw [hl.out]; omega)]
end Go.Proofs.YtfalncbcomlelaaGreatDoor.L
