import Derived.Test.YtebilgnmnambnaaGreatDoorPart24

namespace Go.Proofs.YtebilgnmnambnaaGreatDoor.Mo
open Go.RowKit Dc
theorem natB_all {s : ByteArray} (h : ∀ i (h : i < s.size), Go.Proofs.YtebilgnmnambnaaGreatDoor.Dg s[i]) : natB s = (decide (0 < s.size) && (decide (s.size = 1) || !decide (bt s 0 = 48))) := by
  unfold natB
  rw [(all_iff s).2 h, Bool.true_and]
theorem natB_none {s : ByteArray} {k : Nat} (hk : k < s.size) (h : ¬ Go.Proofs.YtebilgnmnambnaaGreatDoor.Dg s[k]) : natB s = false := by
  cases c : natB s with
  | false => rfl
  | true => exact absurd (((natB_iff s).1 c).1.2 k hk) h
theorem is0_size {s : ByteArray} (h : is0 s = true) : s.size = 1 := by
  unfold is0 at h
  have := eq_of_beq h
  rw [ByteArray.toList_eq] at this
  have := congrArg List.length this
  simpa using this
theorem is0_one {s : ByteArray} (h : s.size = 1) (h0 : s[0].toNat = 48) : is0 s = true := by
  unfold is0
  rw [ByteArray.toList_eq]
  have e : s.data.toList = [s[0]] := by
    apply List.ext_getElem
    · simpa using h
    · intro i h1 h2
      simp at h2
      subst h2
      rfl
  rw [e]
  have : s[0] = 48 := by
    apply UInt8.toNat_inj.1
    simpa using h0
  rw [this]; rfl
set_option maxRecDepth 100000 in
set_option maxHeartbeats 800000 in
theorem BDigits_any (s : ByteArray) (w : World) (hs : s.size ≤ 9223372036854775807) :
    Calls Tryz.prog 75 #[.string s] w fun e w' => e = .returned (.bool (natB s)) ∧ w' = w := by
  obtain ⟨q, hq⟩ : ∃ q, (s.toList == [48]) = q := ⟨_, rfl⟩
  have hq0 : Hid (is0 s = q) := hq
  have he : s.toList.isEmpty = decide (s.size = 0) := empty_iff s
  go_enter Tryz.func75, Tryz.ntmps75
  go_wp2_with fail
  go_loopw [3] (fun i wr => ∃ k : Nat, k ≤ s.size ∧ i = .int .i64 k ∧ Hid (∀ j (h : j < s.size), j < k → Go.Proofs.YtebilgnmnambnaaGreatDoor.Dg s[j]) ∧ wr = w) (fun i _ => s.size - (intOf i).toNat)
  case atStart => exact ⟨0, Nat.zero_le _, rfl, fun j _ hj => absurd hj (by omega), rfl⟩
  case round =>
    obtain ⟨k, hk, rfl, hd, rfl⟩ := hrel
    by_cases hlt : k < s.size
    · by_cases hg : Go.Proofs.YtebilgnmnambnaaGreatDoor.Dg s[k]
      · have N : Hid (∀ j (h : j < s.size), j < k + 1 → Go.Proofs.YtebilgnmnambnaaGreatDoor.Dg s[j]) := fun j hj hjk => by
          by_cases e : j = k
          · subst e; exact hg
          · exact hd.out j hj (by omega)
        obtain ⟨d1, d2⟩ := hg
        go_wp2
        go_roundw
        case rel => exact ⟨k + 1, by omega, by go_num, N, trivial⟩
        case measure => simp [intOf]; omega
      · have R : Hid (natB s = false) := natB_none hlt hg
        have hg' : (s[k].toNat : Int) < 48 ∨ 57 < (s[k].toNat : Int) := by unfold Go.Proofs.YtebilgnmnambnaaGreatDoor.Dg at hg; omega
        clear hg
        rcases hg' with hg | hg
        · go_wp2
          go_ret
          exact ⟨by rw [R.out]; rfl, rfl⟩
        · go_wp2
          go_ret
          exact ⟨by rw [R.out]; rfl, rfl⟩
    · have R := natB_all (s := s) (fun i hi => hd.out i hi (by omega))
      by_cases z : s.size = 0
      · have q0 : q = false := by
          cases q with
          | false => rfl
          | true => have := is0_size hq0.out; omega
        have R' : Hid (natB s = false) := by show _ = _; rw [R]; simp [z]
        subst q0
        have he' : s.toList.isEmpty = true := by rw [he]; simp [z]
        clear R he
        go_wp2
        go_ret
        exact ⟨by rw [R'.out]; rfl, rfl⟩
      · have he' : s.toList.isEmpty = false := by rw [he]; simp [z]
        have zp : 0 < s.size := by omega
        cases q with
        | true =>
          have R' : Hid (natB s = true) := by show _ = _; rw [R, is0_size hq0.out]; simp
          clear R he
          go_wp2
          go_ret
          exact ⟨by rw [R'.out]; rfl, rfl⟩
        | false =>
          by_cases c : s[0].toNat = 48
          · have ns : s.size ≠ 1 := fun e => by have := is0_one e c; rw [hq0.out] at this; cases this
            have R' : Hid (natB s = false) := by show _ = _; rw [R, bt_in zp, c]; simp [ns]
            have c' : (s[0].toNat : Int) = 48 := by omega
            clear R he c
            go_wp2
            go_ret
            exact ⟨by rw [R'.out]; rfl, rfl⟩
          · have R' : Hid (natB s = true) := by show _ = _; rw [R, bt_in zp]; simp [zp, c]
            have c' : ((s[0].toNat : Int) != 48) = true := by simp; omega
            clear R he c
            go_wp2
            go_ret
            exact ⟨by rw [R'.out]; rfl, rfl⟩
end Go.Proofs.YtebilgnmnambnaaGreatDoor.Mo

namespace Go.Proofs.YtebilgnmnambnaaGreatDoor.Mo
open Go.RowKit Dc
set_option maxRecDepth 100000 in
set_option maxHeartbeats 800000 in
theorem Good_plain_a (n d S : ByteArray) (w : World) (_ns : n.size ≤ 9223372036854775807) (_ds : d.size ≤ 9223372036854775807) (S0 : n.size = 0 ∧ n.toList.isEmpty = true ∨ ∃ h0 : 0 < n.size, (((n[0].toNat : Int)) == 45) = false ∧ n.toList.isEmpty = false) (hS : n = S) (D1 : ∀ x, Calls Tryz.prog 75 #[.string S] x fun e w' => e = .returned (.bool false) ∧ w' = x)  :
    Calls Tryz.prog 51 #[.agg #[.string n, .string d]] w fun e w' => e = .returned (.int .i64 5) ∧ Below w.heap.size w w' := by
  have K0 := Blk.new w #[.string n, .string d] 23
  have pr : Below w.heap.size w (w.alloc (.cells #[.string n, .string d] 23)) := (Below.refl _ _).alloc (Nat.le_refl _) _
  subst hS
  rcases S0 with ⟨z0, z1⟩ | ⟨h0, z1, z2⟩
  · go_enter Tryz.func51, Tryz.ntmps51
    go_wp2_with (first
      | (go_at_call 75; (with_reducible refine (D1 _).mono ?_); rintro e w1 ⟨rfl, hw⟩; subst w1)
      | fail)
    go_ret
    exact ⟨rfl, pr⟩
  · go_enter Tryz.func51, Tryz.ntmps51
    go_wp2_with (first
      | (go_at_call 75; (with_reducible refine (D1 _).mono ?_); rintro e w1 ⟨rfl, hw⟩; subst w1)
      | fail)
    go_ret
    exact ⟨rfl, pr⟩
set_option maxRecDepth 100000 in
set_option maxHeartbeats 800000 in
theorem Good_plain_b (n d S : ByteArray) (w : World) (_ns : n.size ≤ 9223372036854775807) (_ds : d.size ≤ 9223372036854775807) (h0 : 0 < n.size) (z1 : (((n[0].toNat : Int)) == 45) = false) (z2 : n.toList.isEmpty = false) (hS : n = S) (D1 : ∀ x, Calls Tryz.prog 75 #[.string S] x fun e w' => e = .returned (.bool true) ∧ w' = x) (D2 : ∀ x, Calls Tryz.prog 75 #[.string d] x fun e w' => e = .returned (.bool false) ∧ w' = x)  :
    Calls Tryz.prog 51 #[.agg #[.string n, .string d]] w fun e w' => e = .returned (.int .i64 5) ∧ Below w.heap.size w w' := by
  have K0 := Blk.new w #[.string n, .string d] 23
  have pr : Below w.heap.size w (w.alloc (.cells #[.string n, .string d] 23)) := (Below.refl _ _).alloc (Nat.le_refl _) _
  subst hS
  go_enter Tryz.func51, Tryz.ntmps51
  go_wp2_with (first
    | (go_at_call 75; (with_reducible refine (D1 _).mono ?_); rintro e w1 ⟨rfl, hw⟩; subst w1)
    | (go_at_call 75; (with_reducible refine (D2 _).mono ?_); rintro e w1 ⟨rfl, hw⟩; subst w1)
    | fail)
  go_ret
  exact ⟨rfl, pr⟩
set_option maxRecDepth 100000 in
set_option maxHeartbeats 800000 in
theorem Good_plain_c (n d S : ByteArray) (w : World) (_ns : n.size ≤ 9223372036854775807) (_ds : d.size ≤ 9223372036854775807) (h0 : 0 < n.size) (z1 : (((n[0].toNat : Int)) == 45) = false) (z2 : n.toList.isEmpty = false) (hS : n = S) (D1 : ∀ x, Calls Tryz.prog 75 #[.string S] x fun e w' => e = .returned (.bool true) ∧ w' = x) (D2 : ∀ x, Calls Tryz.prog 75 #[.string d] x fun e w' => e = .returned (.bool true) ∧ w' = x) (hz : (d.toList == [48]) = true) :
    Calls Tryz.prog 51 #[.agg #[.string n, .string d]] w fun e w' => e = .returned (.int .i64 5) ∧ Below w.heap.size w w' := by
  have K0 := Blk.new w #[.string n, .string d] 23
  have pr : Below w.heap.size w (w.alloc (.cells #[.string n, .string d] 23)) := (Below.refl _ _).alloc (Nat.le_refl _) _
  subst hS
  go_enter Tryz.func51, Tryz.ntmps51
  go_wp2_with (first
    | (go_at_call 75; (with_reducible refine (D1 _).mono ?_); rintro e w1 ⟨rfl, hw⟩; subst w1)
    | (go_at_call 75; (with_reducible refine (D2 _).mono ?_); rintro e w1 ⟨rfl, hw⟩; subst w1)
    | fail)
  go_ret
  exact ⟨rfl, pr⟩
set_option maxRecDepth 100000 in
set_option maxHeartbeats 800000 in
theorem Good_plain_e (n d S : ByteArray) (w : World) (_ns : n.size ≤ 9223372036854775807) (_ds : d.size ≤ 9223372036854775807) (h0 : 0 < n.size) (z1 : (((n[0].toNat : Int)) == 45) = false) (z2 : n.toList.isEmpty = false) (hS : n = S) (D1 : ∀ x, Calls Tryz.prog 75 #[.string S] x fun e w' => e = .returned (.bool true) ∧ w' = x) (D2 : ∀ x, Calls Tryz.prog 75 #[.string d] x fun e w' => e = .returned (.bool true) ∧ w' = x) (hz : (d.toList == [48]) = false) (hq : (S.toList == [48]) = true) (hL : n.size ≤ 1) (ho : (!(d.toList == [49])) = true) :
    Calls Tryz.prog 51 #[.agg #[.string n, .string d]] w fun e w' => e = .returned (.int .i64 5) ∧ Below w.heap.size w w' := by
  have K0 := Blk.new w #[.string n, .string d] 23
  have pr : Below w.heap.size w (w.alloc (.cells #[.string n, .string d] 23)) := (Below.refl _ _).alloc (Nat.le_refl _) _
  have hL1 : decide ((1 : Int) < (n.size : Int)) = false := by simp; omega
  subst hS
  go_enter Tryz.func51, Tryz.ntmps51
  go_wp2_with (first
    | (go_at_call 75; (with_reducible refine (D1 _).mono ?_); rintro e w1 ⟨rfl, hw⟩; subst w1)
    | (go_at_call 75; (with_reducible refine (D2 _).mono ?_); rintro e w1 ⟨rfl, hw⟩; subst w1)
    | fail)
  go_ret
  exact ⟨rfl, pr⟩
set_option maxRecDepth 100000 in
set_option maxHeartbeats 800000 in
theorem Good_plain_f (n d S : ByteArray) (w : World) (_ns : n.size ≤ 9223372036854775807) (_ds : d.size ≤ 9223372036854775807) (h0 : 0 < n.size) (z1 : (((n[0].toNat : Int)) == 45) = false) (z2 : n.toList.isEmpty = false) (hS : n = S) (D1 : ∀ x, Calls Tryz.prog 75 #[.string S] x fun e w' => e = .returned (.bool true) ∧ w' = x) (D2 : ∀ x, Calls Tryz.prog 75 #[.string d] x fun e w' => e = .returned (.bool true) ∧ w' = x) (hz : (d.toList == [48]) = false) (hq : (S.toList == [48]) = false) (hl : 4096 < S.size) :
    Calls Tryz.prog 51 #[.agg #[.string n, .string d]] w fun e w' => e = .returned (.int .i64 3) ∧ Below w.heap.size w w' := by
  have K0 := Blk.new w #[.string n, .string d] 23
  have pr : Below w.heap.size w (w.alloc (.cells #[.string n, .string d] 23)) := (Below.refl _ _).alloc (Nat.le_refl _) _
  have hl1 : (4096 : Int) < (S.size : Int) := by omega
  subst hS
  go_enter Tryz.func51, Tryz.ntmps51
  go_wp2_with (first
    | (go_at_call 75; (with_reducible refine (D1 _).mono ?_); rintro e w1 ⟨rfl, hw⟩; subst w1)
    | (go_at_call 75; (with_reducible refine (D2 _).mono ?_); rintro e w1 ⟨rfl, hw⟩; subst w1)
    | fail)
  go_ret
  exact ⟨rfl, pr⟩
set_option maxRecDepth 100000 in
set_option maxHeartbeats 800000 in
theorem Good_plain_g (n d S : ByteArray) (w : World) (_ns : n.size ≤ 9223372036854775807) (_ds : d.size ≤ 9223372036854775807) (h0 : 0 < n.size) (z1 : (((n[0].toNat : Int)) == 45) = false) (z2 : n.toList.isEmpty = false) (hS : n = S) (D1 : ∀ x, Calls Tryz.prog 75 #[.string S] x fun e w' => e = .returned (.bool true) ∧ w' = x) (D2 : ∀ x, Calls Tryz.prog 75 #[.string d] x fun e w' => e = .returned (.bool true) ∧ w' = x) (hz : (d.toList == [48]) = false) (hq : (S.toList == [48]) = false) (hl : S.size ≤ 4096) (hl2 : 4096 < d.size) :
    Calls Tryz.prog 51 #[.agg #[.string n, .string d]] w fun e w' => e = .returned (.int .i64 3) ∧ Below w.heap.size w w' := by
  have K0 := Blk.new w #[.string n, .string d] 23
  have pr : Below w.heap.size w (w.alloc (.cells #[.string n, .string d] 23)) := (Below.refl _ _).alloc (Nat.le_refl _) _
  have hl1 : (S.size : Int) ≤ 4096 := by omega
  have hl3 : (4096 : Int) < (d.size : Int) := by omega
  subst hS
  go_enter Tryz.func51, Tryz.ntmps51
  go_wp2_with (first
    | (go_at_call 75; (with_reducible refine (D1 _).mono ?_); rintro e w1 ⟨rfl, hw⟩; subst w1)
    | (go_at_call 75; (with_reducible refine (D2 _).mono ?_); rintro e w1 ⟨rfl, hw⟩; subst w1)
    | fail)
  go_ret
  exact ⟨rfl, pr⟩
set_option maxRecDepth 100000 in
set_option maxHeartbeats 800000 in
theorem Good_neg_a (n d S : ByteArray) (w : World) (_ns : n.size ≤ 9223372036854775807) (_ds : d.size ≤ 9223372036854775807) (h0 : 0 < n.size) (hn : (((n[0].toNat : Int)) == 45) = true) (he : n.toList.isEmpty = false) (hS : n.extract 1 n.size = S) (D1 : ∀ x, Calls Tryz.prog 75 #[.string S] x fun e w' => e = .returned (.bool false) ∧ w' = x)  :
    Calls Tryz.prog 51 #[.agg #[.string n, .string d]] w fun e w' => e = .returned (.int .i64 5) ∧ Below w.heap.size w w' := by
  have K0 := Blk.new w #[.string n, .string d] 23
  have pr : Below w.heap.size w (w.alloc (.cells #[.string n, .string d] 23)) := (Below.refl _ _).alloc (Nat.le_refl _) _
  have h1 : (1 : Int) ≤ (n.size : Int) := by omega
  go_enter Tryz.func51, Tryz.ntmps51
  go_wp2_with (first
    | (go_at_call 75; (with_reducible refine (D1 _).mono ?_); rintro e w1 ⟨rfl, hw⟩; subst w1)
    | fail)
  go_ret
  exact ⟨rfl, pr⟩
set_option maxRecDepth 100000 in
set_option maxHeartbeats 800000 in
theorem Good_neg_b (n d S : ByteArray) (w : World) (_ns : n.size ≤ 9223372036854775807) (_ds : d.size ≤ 9223372036854775807) (h0 : 0 < n.size) (hn : (((n[0].toNat : Int)) == 45) = true) (he : n.toList.isEmpty = false) (hS : n.extract 1 n.size = S) (D1 : ∀ x, Calls Tryz.prog 75 #[.string S] x fun e w' => e = .returned (.bool true) ∧ w' = x) (D2 : ∀ x, Calls Tryz.prog 75 #[.string d] x fun e w' => e = .returned (.bool false) ∧ w' = x)  :
    Calls Tryz.prog 51 #[.agg #[.string n, .string d]] w fun e w' => e = .returned (.int .i64 5) ∧ Below w.heap.size w w' := by
  have K0 := Blk.new w #[.string n, .string d] 23
  have pr : Below w.heap.size w (w.alloc (.cells #[.string n, .string d] 23)) := (Below.refl _ _).alloc (Nat.le_refl _) _
  have h1 : (1 : Int) ≤ (n.size : Int) := by omega
  go_enter Tryz.func51, Tryz.ntmps51
  go_wp2_with (first
    | (go_at_call 75; (with_reducible refine (D1 _).mono ?_); rintro e w1 ⟨rfl, hw⟩; subst w1)
    | (go_at_call 75; (with_reducible refine (D2 _).mono ?_); rintro e w1 ⟨rfl, hw⟩; subst w1)
    | fail)
  go_ret
  exact ⟨rfl, pr⟩
set_option maxRecDepth 100000 in
set_option maxHeartbeats 800000 in
theorem Good_neg_c (n d S : ByteArray) (w : World) (_ns : n.size ≤ 9223372036854775807) (_ds : d.size ≤ 9223372036854775807) (h0 : 0 < n.size) (hn : (((n[0].toNat : Int)) == 45) = true) (he : n.toList.isEmpty = false) (hS : n.extract 1 n.size = S) (D1 : ∀ x, Calls Tryz.prog 75 #[.string S] x fun e w' => e = .returned (.bool true) ∧ w' = x) (D2 : ∀ x, Calls Tryz.prog 75 #[.string d] x fun e w' => e = .returned (.bool true) ∧ w' = x) (hz : (d.toList == [48]) = true) :
    Calls Tryz.prog 51 #[.agg #[.string n, .string d]] w fun e w' => e = .returned (.int .i64 5) ∧ Below w.heap.size w w' := by
  have K0 := Blk.new w #[.string n, .string d] 23
  have pr : Below w.heap.size w (w.alloc (.cells #[.string n, .string d] 23)) := (Below.refl _ _).alloc (Nat.le_refl _) _
  have h1 : (1 : Int) ≤ (n.size : Int) := by omega
  go_enter Tryz.func51, Tryz.ntmps51
  go_wp2_with (first
    | (go_at_call 75; (with_reducible refine (D1 _).mono ?_); rintro e w1 ⟨rfl, hw⟩; subst w1)
    | (go_at_call 75; (with_reducible refine (D2 _).mono ?_); rintro e w1 ⟨rfl, hw⟩; subst w1)
    | fail)
  go_ret
  exact ⟨rfl, pr⟩
set_option maxRecDepth 100000 in
set_option maxHeartbeats 800000 in
theorem Good_neg_d (n d S : ByteArray) (w : World) (_ns : n.size ≤ 9223372036854775807) (_ds : d.size ≤ 9223372036854775807) (h0 : 0 < n.size) (hn : (((n[0].toNat : Int)) == 45) = true) (he : n.toList.isEmpty = false) (hS : n.extract 1 n.size = S) (D1 : ∀ x, Calls Tryz.prog 75 #[.string S] x fun e w' => e = .returned (.bool true) ∧ w' = x) (D2 : ∀ x, Calls Tryz.prog 75 #[.string d] x fun e w' => e = .returned (.bool true) ∧ w' = x) (hz : (d.toList == [48]) = false) (hq : (S.toList == [48]) = true) (hL : 1 < n.size) :
    Calls Tryz.prog 51 #[.agg #[.string n, .string d]] w fun e w' => e = .returned (.int .i64 5) ∧ Below w.heap.size w w' := by
  have K0 := Blk.new w #[.string n, .string d] 23
  have pr : Below w.heap.size w (w.alloc (.cells #[.string n, .string d] 23)) := (Below.refl _ _).alloc (Nat.le_refl _) _
  have hL1 : (1 : Int) < (n.size : Int) := by omega
  have h1 : (1 : Int) ≤ (n.size : Int) := by omega
  go_enter Tryz.func51, Tryz.ntmps51
  go_wp2_with (first
    | (go_at_call 75; (with_reducible refine (D1 _).mono ?_); rintro e w1 ⟨rfl, hw⟩; subst w1)
    | (go_at_call 75; (with_reducible refine (D2 _).mono ?_); rintro e w1 ⟨rfl, hw⟩; subst w1)
    | fail)
  go_ret
  exact ⟨rfl, pr⟩
set_option maxRecDepth 100000 in
set_option maxHeartbeats 800000 in
theorem Good_neg_f (n d S : ByteArray) (w : World) (_ns : n.size ≤ 9223372036854775807) (_ds : d.size ≤ 9223372036854775807) (h0 : 0 < n.size) (hn : (((n[0].toNat : Int)) == 45) = true) (he : n.toList.isEmpty = false) (hS : n.extract 1 n.size = S) (D1 : ∀ x, Calls Tryz.prog 75 #[.string S] x fun e w' => e = .returned (.bool true) ∧ w' = x) (D2 : ∀ x, Calls Tryz.prog 75 #[.string d] x fun e w' => e = .returned (.bool true) ∧ w' = x) (hz : (d.toList == [48]) = false) (hq : (S.toList == [48]) = false) (hl : 4096 < S.size) :
    Calls Tryz.prog 51 #[.agg #[.string n, .string d]] w fun e w' => e = .returned (.int .i64 3) ∧ Below w.heap.size w w' := by
  have K0 := Blk.new w #[.string n, .string d] 23
  have pr : Below w.heap.size w (w.alloc (.cells #[.string n, .string d] 23)) := (Below.refl _ _).alloc (Nat.le_refl _) _
  have hl1 : (4096 : Int) < (S.size : Int) := by omega
  have h1 : (1 : Int) ≤ (n.size : Int) := by omega
  go_enter Tryz.func51, Tryz.ntmps51
  go_wp2_with (first
    | (go_at_call 75; (with_reducible refine (D1 _).mono ?_); rintro e w1 ⟨rfl, hw⟩; subst w1)
    | (go_at_call 75; (with_reducible refine (D2 _).mono ?_); rintro e w1 ⟨rfl, hw⟩; subst w1)
    | fail)
  go_ret
  exact ⟨rfl, pr⟩
set_option maxRecDepth 100000 in
set_option maxHeartbeats 800000 in
theorem Good_neg_g (n d S : ByteArray) (w : World) (_ns : n.size ≤ 9223372036854775807) (_ds : d.size ≤ 9223372036854775807) (h0 : 0 < n.size) (hn : (((n[0].toNat : Int)) == 45) = true) (he : n.toList.isEmpty = false) (hS : n.extract 1 n.size = S) (D1 : ∀ x, Calls Tryz.prog 75 #[.string S] x fun e w' => e = .returned (.bool true) ∧ w' = x) (D2 : ∀ x, Calls Tryz.prog 75 #[.string d] x fun e w' => e = .returned (.bool true) ∧ w' = x) (hz : (d.toList == [48]) = false) (hq : (S.toList == [48]) = false) (hl : S.size ≤ 4096) (hl2 : 4096 < d.size) :
    Calls Tryz.prog 51 #[.agg #[.string n, .string d]] w fun e w' => e = .returned (.int .i64 3) ∧ Below w.heap.size w w' := by
  have K0 := Blk.new w #[.string n, .string d] 23
  have pr : Below w.heap.size w (w.alloc (.cells #[.string n, .string d] 23)) := (Below.refl _ _).alloc (Nat.le_refl _) _
  have hl1 : (S.size : Int) ≤ 4096 := by omega
  have hl3 : (4096 : Int) < (d.size : Int) := by omega
  have h1 : (1 : Int) ≤ (n.size : Int) := by omega
  go_enter Tryz.func51, Tryz.ntmps51
  go_wp2_with (first
    | (go_at_call 75; (with_reducible refine (D1 _).mono ?_); rintro e w1 ⟨rfl, hw⟩; subst w1)
    | (go_at_call 75; (with_reducible refine (D2 _).mono ?_); rintro e w1 ⟨rfl, hw⟩; subst w1)
    | fail)
  go_ret
  exact ⟨rfl, pr⟩
end Go.Proofs.YtebilgnmnambnaaGreatDoor.Mo
