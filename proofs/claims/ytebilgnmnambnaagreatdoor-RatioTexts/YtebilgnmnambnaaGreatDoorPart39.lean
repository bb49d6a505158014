import Derived.Test.YtebilgnmnambnaaGreatDoorPart38
import Derived.Test.YtebilgnmnambnaaGreatDoorPart37

namespace Go.Proofs.YtebilgnmnambnaaGreatDoor.Mo
open Go.RowKit Tn Go.Lib Dc
theorem nl_zero {x : World} {a : Option Addr} {l c : Nat} {N : Int} (h : Nl x a l c N) : ((l : Int) == 0) = decide (N = 0) := by
  obtain ⟨xs, r, n, v⟩ := h
  have e1 : l = xs.length := by obtain ⟨_, _, _, e, _⟩ := r; cases e; rfl
  subst e1
  rw [Bool.eq_iff_iff, beq_iff_eq, decide_eq_true_eq]
  constructor
  · intro z
    have : xs = [] := List.length_eq_zero_iff.1 (by omega)
    subst this
    simpa [Tl.val] using v.symm
  · intro z
    by_cases e : xs = []
    · subst e; rfl
    · have := Tl.val_low r.1 n e
      have := Tl.pw_pos (xs.length - 1)
      omega
set_option maxRecDepth 100000 in
set_option maxHeartbeats 6400000 in
theorem RP_front_none (s S : ByteArray) (g : Bool) (i : Nat)  (w : World) (h0 : 0 < s.size) (hs : ¬ (s.size : Int) > 65536) (hg : (((s[0].toNat : Int)) == 45) = g) (hS : (if g = true then s.extract 1 s.size else s) = S) (hi : i ≤ S.size) (HB : ∀ (j : Nat) (h : j < S.size), j < i → S[j].toNat ≠ 47 ∧ S[j].toNat ≠ 46) (hn : i = S.size) (DI : ∀ x, Calls Tryz.prog 75 #[.string S] x fun e w' => e = .returned (.bool false) ∧ w' = x) : Calls Tryz.prog 20 #[.string s] w fun e w' => e = .returned (.tuple #[.agg #[.string ⟨#[]⟩, .string ⟨#[]⟩], .int .i64 2]) ∧ Below w.heap.size w w' := by
  have KR := Blk.new w #[.string ⟨#[]⟩, .string ⟨#[]⟩] 23
  have pr : Below w.heap.size w (w.alloc (.cells #[.string ⟨#[]⟩, .string ⟨#[]⟩] 23)) := (Below.refl _ _).alloc (Nat.le_refl _) _
  have z0 := KR.at 0
  have z1 := KR.at 1
  have x0 := KR.free 0
  have x1 := KR.free 1
  simp at z0 z1
  have he : s.toList.isEmpty = false := by rw [empty_iff, decide_eq_false_iff_not]; omega
  have zS : S.size ≤ 65536 := by
    rw [← hS]
    split
    · rw [ByteArray.size_extract]; omega
    · omega
  have HB' : Hid (∀ (j : Nat) (h : j < S.size), j < i → S[j].toNat ≠ 47 ∧ S[j].toNat ≠ 46) := HB
  clear HB
  go_enter Tryz.func20, Tryz.ntmps20
  go_upto_if 22 with fail
  generalize w.alloc (.cells #[.string ⟨#[]⟩, .string ⟨#[]⟩] 23) = WA at *
  go_cut [0] (fun a wc => a = .string S ∧ wc = WA)
  case first =>
    cases g
    all_goals
      go_wp2_with fail
      go_meet
      case rel => exact ⟨by first | (rw [← hS]; rfl) | rw [← hS]; rfl, rfl⟩
  case rest =>
    obtain ⟨rfl, rfl⟩ := hcut
    clear hS he hg
    go_wp2_with fail
    go_loop [5] (fun v => ∃ j : Nat, j ≤ i ∧ v = .int .i64 (j : Int)) (fun v => i - (RowKit.intOf v).toNat)
    case atStart => exact ⟨0, Nat.zero_le _, rfl⟩
    case round =>
      obtain ⟨j, hj, rfl⟩ := hrel
      by_cases hlt : j < i
      · have hz : j < S.size := by omega
        obtain ⟨d1, d2⟩ := HB'.out j hz hlt
        have d3 : ((S[j].toNat : Int) == 47) = false := by rw [beq_eq_false_iff_ne]; omega
        have d4 : ((S[j].toNat : Int) == 46) = false := by rw [beq_eq_false_iff_ne]; omega
        have d5 : ((S[j].toNat : Int) != 47) = true := by rw [bne_iff_ne]; omega
        have d6 : ((S[j].toNat : Int) != 46) = true := by rw [bne_iff_ne]; omega
        have d7 : ¬ (S[j].toNat : Int) = 47 := by omega
        have d8 : ¬ (S[j].toNat : Int) = 46 := by omega
        clear d1 d2
        go_wp2
        go_round
        case rel => exact ⟨j + 1, by omega, by go_num⟩
        case measure => simp [RowKit.intOf]; omega
      · obtain rfl : j = i := by omega
        have i0 : (0 : Int) ≤ (j : Int) := by omega
        have i1 : (j : Int) ≤ (S.size : Int) := by omega
        clear HB' hlt hj
        have iN : ¬ (j : Int) < (S.size : Int) := by omega
        all_goals
          go_wp2_with (first
            | (go_at_call 75; (have mk1 := pr); (refine (DI _).mono ?_); (rintro e w1 ⟨rfl, hw1⟩); (subst w1); (have p1 := pr); (have KR1 := KR); (have z0 := KR1.at 0); (have z1 := KR1.at 1); (have x0 := KR1.free 0); (have x1 := KR1.free 1); (simp at z0 z1))
            | fail)
          have KE := bput (bput KR1 0 (.string ⟨#[]⟩)) 1 (.string ⟨#[]⟩)
          have bE := (p1.setCell (p := ⟨w.heap.size, 0, none⟩) (Nat.le_refl _) (.string ⟨#[]⟩)).setCell (p := ⟨w.heap.size, 1, none⟩) (Nat.le_refl _) (.string ⟨#[]⟩)
          have q0 := KE.at 0
          have q1 := KE.at 1
          simp at q0 q1
          exact bodyPost_ret (v := .tuple #[.agg #[.string ⟨#[]⟩, .string ⟨#[]⟩], .int .i64 2]) (by simp [results, Tryz.results20, go_sem, q0, q1]) rfl ⟨rfl, bE⟩
set_option maxRecDepth 100000 in
set_option maxHeartbeats 6400000 in
theorem RP_front_slash (s S : ByteArray) (g : Bool) (i : Nat) (F K : ByteArray) (w : World) (h0 : 0 < s.size) (hs : ¬ (s.size : Int) > 65536) (hg : (((s[0].toNat : Int)) == 45) = g) (hS : (if g = true then s.extract 1 s.size else s) = S) (hi : i ≤ S.size) (HB : ∀ (j : Nat) (h : j < S.size), j < i → S[j].toNat ≠ 47 ∧ S[j].toNat ≠ 46) (hF : S.extract 0 i = F) (hsz : i < S.size) (hc : S[i].toNat = 47) (hK : S.extract (i + 1) S.size = K) (DI : ∀ x, Calls Tryz.prog 75 #[.string F] x fun e w' => e = .returned (.bool false) ∧ w' = x) : Calls Tryz.prog 20 #[.string s] w fun e w' => e = .returned (.tuple #[.agg #[.string ⟨#[]⟩, .string ⟨#[]⟩], .int .i64 2]) ∧ Below w.heap.size w w' := by
  have KR := Blk.new w #[.string ⟨#[]⟩, .string ⟨#[]⟩] 23
  have pr : Below w.heap.size w (w.alloc (.cells #[.string ⟨#[]⟩, .string ⟨#[]⟩] 23)) := (Below.refl _ _).alloc (Nat.le_refl _) _
  have z0 := KR.at 0
  have z1 := KR.at 1
  have x0 := KR.free 0
  have x1 := KR.free 1
  simp at z0 z1
  have he : s.toList.isEmpty = false := by rw [empty_iff, decide_eq_false_iff_not]; omega
  have zS : S.size ≤ 65536 := by
    rw [← hS]
    split
    · rw [ByteArray.size_extract]; omega
    · omega
  have HB' : Hid (∀ (j : Nat) (h : j < S.size), j < i → S[j].toNat ≠ 47 ∧ S[j].toNat ≠ 46) := HB
  clear HB
  go_enter Tryz.func20, Tryz.ntmps20
  go_upto_if 22 with fail
  generalize w.alloc (.cells #[.string ⟨#[]⟩, .string ⟨#[]⟩] 23) = WA at *
  go_cut [0] (fun a wc => a = .string S ∧ wc = WA)
  case first =>
    cases g
    all_goals
      go_wp2_with fail
      go_meet
      case rel => exact ⟨by first | (rw [← hS]; rfl) | rw [← hS]; rfl, rfl⟩
  case rest =>
    obtain ⟨rfl, rfl⟩ := hcut
    clear hS he hg
    go_wp2_with fail
    go_loop [5] (fun v => ∃ j : Nat, j ≤ i ∧ v = .int .i64 (j : Int)) (fun v => i - (RowKit.intOf v).toNat)
    case atStart => exact ⟨0, Nat.zero_le _, rfl⟩
    case round =>
      obtain ⟨j, hj, rfl⟩ := hrel
      by_cases hlt : j < i
      · have hz : j < S.size := by omega
        obtain ⟨d1, d2⟩ := HB'.out j hz hlt
        have d3 : ((S[j].toNat : Int) == 47) = false := by rw [beq_eq_false_iff_ne]; omega
        have d4 : ((S[j].toNat : Int) == 46) = false := by rw [beq_eq_false_iff_ne]; omega
        have d5 : ((S[j].toNat : Int) != 47) = true := by rw [bne_iff_ne]; omega
        have d6 : ((S[j].toNat : Int) != 46) = true := by rw [bne_iff_ne]; omega
        have d7 : ¬ (S[j].toNat : Int) = 47 := by omega
        have d8 : ¬ (S[j].toNat : Int) = 46 := by omega
        clear d1 d2
        go_wp2
        go_round
        case rel => exact ⟨j + 1, by omega, by go_num⟩
        case measure => simp [RowKit.intOf]; omega
      · obtain rfl : j = i := by omega
        have i0 : (0 : Int) ≤ (j : Int) := by omega
        have i1 : (j : Int) ≤ (S.size : Int) := by omega
        clear HB' hlt hj
        subst hF
        subst hK
        have iZ : j < S.size := hsz
        have iN : (j : Int) < (S.size : Int) := by omega
        have iS : ((S[j].toNat : Int) == 47) = true := by rw [beq_iff_eq]; omega
        have iS' : ((S[j].toNat : Int) != 47) = false := by rw [bne_eq_false_iff_eq]; omega
        have iS'' : (S[j].toNat : Int) = 47 := by omega
        have iW : IntKind.i64.wrap ((j : Int) + 1) = ((j + 1 : Nat) : Int) := by rw [show (j : Int) + 1 = ((j + 1 : Nat) : Int) by omega]; exact Wt.wrapI _ (by omega) (by omega)
        have i2 : (0 : Int) ≤ ((j + 1 : Nat) : Int) := by omega
        have i3 : ((j + 1 : Nat) : Int) ≤ (S.size : Int) := by omega
        all_goals
          go_wp2_with (first
            | (go_at_call 75; (have mk1 := pr); (refine (DI _).mono ?_); (rintro e w1 ⟨rfl, hw1⟩); (subst w1); (have p1 := pr); (have KR1 := KR); (have z0 := KR1.at 0); (have z1 := KR1.at 1); (have x0 := KR1.free 0); (have x1 := KR1.free 1); (simp at z0 z1))
            | fail)
          have KE := bput (bput KR1 0 (.string ⟨#[]⟩)) 1 (.string ⟨#[]⟩)
          have bE := (p1.setCell (p := ⟨w.heap.size, 0, none⟩) (Nat.le_refl _) (.string ⟨#[]⟩)).setCell (p := ⟨w.heap.size, 1, none⟩) (Nat.le_refl _) (.string ⟨#[]⟩)
          have q0 := KE.at 0
          have q1 := KE.at 1
          simp at q0 q1
          exact bodyPost_ret (v := .tuple #[.agg #[.string ⟨#[]⟩, .string ⟨#[]⟩], .int .i64 2]) (by simp [results, Tryz.results20, go_sem, q0, q1]) rfl ⟨rfl, bE⟩
set_option maxRecDepth 100000 in
set_option maxHeartbeats 6400000 in
theorem RP_front_point (s S : ByteArray) (g : Bool) (i : Nat) (F K : ByteArray) (w : World) (h0 : 0 < s.size) (hs : ¬ (s.size : Int) > 65536) (hg : (((s[0].toNat : Int)) == 45) = g) (hS : (if g = true then s.extract 1 s.size else s) = S) (hi : i ≤ S.size) (HB : ∀ (j : Nat) (h : j < S.size), j < i → S[j].toNat ≠ 47 ∧ S[j].toNat ≠ 46) (hF : S.extract 0 i = F) (hsz : i < S.size) (hc : S[i].toNat = 46) (hK : S.extract (i + 1) S.size = K) (DI : ∀ x, Calls Tryz.prog 75 #[.string F] x fun e w' => e = .returned (.bool false) ∧ w' = x) : Calls Tryz.prog 20 #[.string s] w fun e w' => e = .returned (.tuple #[.agg #[.string ⟨#[]⟩, .string ⟨#[]⟩], .int .i64 2]) ∧ Below w.heap.size w w' := by
  have KR := Blk.new w #[.string ⟨#[]⟩, .string ⟨#[]⟩] 23
  have pr : Below w.heap.size w (w.alloc (.cells #[.string ⟨#[]⟩, .string ⟨#[]⟩] 23)) := (Below.refl _ _).alloc (Nat.le_refl _) _
  have z0 := KR.at 0
  have z1 := KR.at 1
  have x0 := KR.free 0
  have x1 := KR.free 1
  simp at z0 z1
  have he : s.toList.isEmpty = false := by rw [empty_iff, decide_eq_false_iff_not]; omega
  have zS : S.size ≤ 65536 := by
    rw [← hS]
    split
    · rw [ByteArray.size_extract]; omega
    · omega
  have HB' : Hid (∀ (j : Nat) (h : j < S.size), j < i → S[j].toNat ≠ 47 ∧ S[j].toNat ≠ 46) := HB
  clear HB
  go_enter Tryz.func20, Tryz.ntmps20
  go_upto_if 22 with fail
  generalize w.alloc (.cells #[.string ⟨#[]⟩, .string ⟨#[]⟩] 23) = WA at *
  go_cut [0] (fun a wc => a = .string S ∧ wc = WA)
  case first =>
    cases g
    all_goals
      go_wp2_with fail
      go_meet
      case rel => exact ⟨by first | (rw [← hS]; rfl) | rw [← hS]; rfl, rfl⟩
  case rest =>
    obtain ⟨rfl, rfl⟩ := hcut
    clear hS he hg
    go_wp2_with fail
    go_loop [5] (fun v => ∃ j : Nat, j ≤ i ∧ v = .int .i64 (j : Int)) (fun v => i - (RowKit.intOf v).toNat)
    case atStart => exact ⟨0, Nat.zero_le _, rfl⟩
    case round =>
      obtain ⟨j, hj, rfl⟩ := hrel
      by_cases hlt : j < i
      · have hz : j < S.size := by omega
        obtain ⟨d1, d2⟩ := HB'.out j hz hlt
        have d3 : ((S[j].toNat : Int) == 47) = false := by rw [beq_eq_false_iff_ne]; omega
        have d4 : ((S[j].toNat : Int) == 46) = false := by rw [beq_eq_false_iff_ne]; omega
        have d5 : ((S[j].toNat : Int) != 47) = true := by rw [bne_iff_ne]; omega
        have d6 : ((S[j].toNat : Int) != 46) = true := by rw [bne_iff_ne]; omega
        have d7 : ¬ (S[j].toNat : Int) = 47 := by omega
        have d8 : ¬ (S[j].toNat : Int) = 46 := by omega
        clear d1 d2
        go_wp2
        go_round
        case rel => exact ⟨j + 1, by omega, by go_num⟩
        case measure => simp [RowKit.intOf]; omega
      · obtain rfl : j = i := by omega
        have i0 : (0 : Int) ≤ (j : Int) := by omega
        have i1 : (j : Int) ≤ (S.size : Int) := by omega
        clear HB' hlt hj
        subst hF
        subst hK
        have iZ : j < S.size := hsz
        have iN : (j : Int) < (S.size : Int) := by omega
        have iS : ((S[j].toNat : Int) == 47) = false := by rw [beq_eq_false_iff_ne]; omega
        have iS' : ((S[j].toNat : Int) != 47) = true := by rw [bne_iff_ne]; omega
        have iS'' : ¬ (S[j].toNat : Int) = 47 := by omega
        have iP' : ((S[j].toNat : Int) != 46) = false := by rw [bne_eq_false_iff_eq]; omega
        have iP'' : (S[j].toNat : Int) = 46 := by omega
        have iP : ((S[j].toNat : Int) == 46) = true := by rw [beq_iff_eq]; omega
        have iW : IntKind.i64.wrap ((j : Int) + 1) = ((j + 1 : Nat) : Int) := by rw [show (j : Int) + 1 = ((j + 1 : Nat) : Int) by omega]; exact Wt.wrapI _ (by omega) (by omega)
        have i2 : (0 : Int) ≤ ((j + 1 : Nat) : Int) := by omega
        have i3 : ((j + 1 : Nat) : Int) ≤ (S.size : Int) := by omega
        all_goals
          go_wp2_with (first
            | (go_at_call 75; (have mk1 := pr); (refine (DI _).mono ?_); (rintro e w1 ⟨rfl, hw1⟩); (subst w1); (have p1 := pr); (have KR1 := KR); (have z0 := KR1.at 0); (have z1 := KR1.at 1); (have x0 := KR1.free 0); (have x1 := KR1.free 1); (simp at z0 z1))
            | fail)
          have KE := bput (bput KR1 0 (.string ⟨#[]⟩)) 1 (.string ⟨#[]⟩)
          have bE := (p1.setCell (p := ⟨w.heap.size, 0, none⟩) (Nat.le_refl _) (.string ⟨#[]⟩)).setCell (p := ⟨w.heap.size, 1, none⟩) (Nat.le_refl _) (.string ⟨#[]⟩)
          have q0 := KE.at 0
          have q1 := KE.at 1
          simp at q0 q1
          exact bodyPost_ret (v := .tuple #[.agg #[.string ⟨#[]⟩, .string ⟨#[]⟩], .int .i64 2]) (by simp [results, Tryz.results20, go_sem, q0, q1]) rfl ⟨rfl, bE⟩
set_option maxRecDepth 100000 in
set_option maxHeartbeats 6400000 in
theorem RP_none_form (s S : ByteArray) (g : Bool) (i : Nat)  (N : Int) (zN : Bool) (w : World) (h0 : 0 < s.size) (hs : ¬ (s.size : Int) > 65536) (hg : (((s[0].toNat : Int)) == 45) = g) (hS : (if g = true then s.extract 1 s.size else s) = S) (hi : i ≤ S.size) (HB : ∀ (j : Nat) (h : j < S.size), j < i → S[j].toNat ≠ 47 ∧ S[j].toNat ≠ 46) (hn : i = S.size) (hN : decide (N = 0) = zN) (hgz : (g && zN) = true) (DI : ∀ x, Calls Tryz.prog 75 #[.string S] x fun e w' => e = .returned (.bool true) ∧ w' = x) (R1 : ∀ x, Calls Tryz.prog 76 #[.string S] x fun e w' => ∃ a l c, e = .returned (.slice a l c) ∧ Nl w' a l c N ∧ Below x.heap.size x w') : Calls Tryz.prog 20 #[.string s] w fun e w' => e = .returned (.tuple #[.agg #[.string ⟨#[]⟩, .string ⟨#[]⟩], .int .i64 2]) ∧ Below w.heap.size w w' := by
  have KR := Blk.new w #[.string ⟨#[]⟩, .string ⟨#[]⟩] 23
  have pr : Below w.heap.size w (w.alloc (.cells #[.string ⟨#[]⟩, .string ⟨#[]⟩] 23)) := (Below.refl _ _).alloc (Nat.le_refl _) _
  have z0 := KR.at 0
  have z1 := KR.at 1
  have x0 := KR.free 0
  have x1 := KR.free 1
  simp at z0 z1
  have he : s.toList.isEmpty = false := by rw [empty_iff, decide_eq_false_iff_not]; omega
  have zS : S.size ≤ 65536 := by
    rw [← hS]
    split
    · rw [ByteArray.size_extract]; omega
    · omega
  have HB' : Hid (∀ (j : Nat) (h : j < S.size), j < i → S[j].toNat ≠ 47 ∧ S[j].toNat ≠ 46) := HB
  clear HB
  go_enter Tryz.func20, Tryz.ntmps20
  go_upto_if 22 with fail
  generalize w.alloc (.cells #[.string ⟨#[]⟩, .string ⟨#[]⟩] 23) = WA at *
  go_cut [0] (fun a wc => a = .string S ∧ wc = WA)
  case first =>
    cases g
    all_goals
      go_wp2_with fail
      go_meet
      case rel => exact ⟨by first | (rw [← hS]; rfl) | rw [← hS]; rfl, rfl⟩
  case rest =>
    obtain ⟨rfl, rfl⟩ := hcut
    clear hS he hg
    go_wp2_with fail
    go_loop [5] (fun v => ∃ j : Nat, j ≤ i ∧ v = .int .i64 (j : Int)) (fun v => i - (RowKit.intOf v).toNat)
    case atStart => exact ⟨0, Nat.zero_le _, rfl⟩
    case round =>
      obtain ⟨j, hj, rfl⟩ := hrel
      by_cases hlt : j < i
      · have hz : j < S.size := by omega
        obtain ⟨d1, d2⟩ := HB'.out j hz hlt
        have d3 : ((S[j].toNat : Int) == 47) = false := by rw [beq_eq_false_iff_ne]; omega
        have d4 : ((S[j].toNat : Int) == 46) = false := by rw [beq_eq_false_iff_ne]; omega
        have d5 : ((S[j].toNat : Int) != 47) = true := by rw [bne_iff_ne]; omega
        have d6 : ((S[j].toNat : Int) != 46) = true := by rw [bne_iff_ne]; omega
        have d7 : ¬ (S[j].toNat : Int) = 47 := by omega
        have d8 : ¬ (S[j].toNat : Int) = 46 := by omega
        clear d1 d2
        go_wp2
        go_round
        case rel => exact ⟨j + 1, by omega, by go_num⟩
        case measure => simp [RowKit.intOf]; omega
      · obtain rfl : j = i := by omega
        have i0 : (0 : Int) ≤ (j : Int) := by omega
        have i1 : (j : Int) ≤ (S.size : Int) := by omega
        clear HB' hlt hj
        have iN : ¬ (j : Int) < (S.size : Int) := by omega
        rw [Bool.and_eq_true] at hgz
        obtain ⟨rfl, rfl⟩ := hgz
        all_goals
          go_wp2_with (first
            | (go_at_call 76; (have mk2 := p1); (refine (R1 _).mono ?_); (rintro e w2 ⟨a2, l2, c2, rfl, n2, b2⟩); (have p2 := bel' p1 b2); (have KR2 := KR1.below b2 KR1.lt); (have y2 := nl_zero n2); (rw [hN] at y2); (have ad := (Below.refl w2.heap.size w2).alloc (Nat.le_refl _) (.cells #[.int .i64 1] 3)); (have pd := bel' p2 ad); (have KRd := KR2.below ad KR2.lt); (have nd : Nl (w2.alloc (.cells #[.int .i64 1] 3)) (some ⟨w2.heap.size, 0, none⟩) 1 1 1 := ⟨[1], L.rd_one (by simp) (by decide) (by decide), L.nm_one, L.val_one⟩); (have n2_ := n2.grow ad); (have z0 := KRd.at 0); (have z1 := KRd.at 1); (have x0 := KRd.free 0); (have x1 := KRd.free 1); (simp at z0 z1))
            | (go_at_call 75; (have mk1 := pr); (refine (DI _).mono ?_); (rintro e w1 ⟨rfl, hw1⟩); (subst w1); (have p1 := pr); (have KR1 := KR))
            | fail)
          have KE := bput (bput KRd 0 (.string ⟨#[]⟩)) 1 (.string ⟨#[]⟩)
          have bE := (pd.setCell (p := ⟨w.heap.size, 0, none⟩) (Nat.le_refl _) (.string ⟨#[]⟩)).setCell (p := ⟨w.heap.size, 1, none⟩) (Nat.le_refl _) (.string ⟨#[]⟩)
          have q0 := KE.at 0
          have q1 := KE.at 1
          simp at q0 q1
          exact bodyPost_ret (v := .tuple #[.agg #[.string ⟨#[]⟩, .string ⟨#[]⟩], .int .i64 2]) (by simp [results, Tryz.results20, go_sem, q0, q1]) rfl ⟨rfl, bE⟩
set_option maxRecDepth 100000 in
set_option maxHeartbeats 6400000 in
theorem RP_none_ok (s S : ByteArray) (g : Bool) (i : Nat) (u v : ByteArray) (N : Int) (zN : Bool) (t : Rat) (er : Int) (w : World) (h0 : 0 < s.size) (hs : ¬ (s.size : Int) > 65536) (hg : (((s[0].toNat : Int)) == 45) = g) (hS : (if g = true then s.extract 1 s.size else s) = S) (hi : i ≤ S.size) (HB : ∀ (j : Nat) (h : j < S.size), j < i → S[j].toNat ≠ 47 ∧ S[j].toNat ≠ 46) (hn : i = S.size) (hN : decide (N = 0) = zN) (hgz : (g && zN) = false) (DI : ∀ x, Calls Tryz.prog 75 #[.string S] x fun e w' => e = .returned (.bool true) ∧ w' = x) (R1 : ∀ x, Calls Tryz.prog 76 #[.string S] x fun e w' => ∃ a l c, e = .returned (.slice a l c) ∧ Nl w' a l c N ∧ Below x.heap.size x w') (MK : ∀ x a l c a' l' c', Nl x a l c N → Nl x a' l' c' 1 → Calls Tryz.prog 80 #[.bool g, .slice a l c, .slice a' l' c'] x (Qf t x)) (OU : ∀ x v1, L.IsQ x v1 t → Calls Tryz.prog 46 #[v1] x fun e w' => e = .returned (.tuple #[.agg #[.string u, .string v], .int .i64 er]) ∧ Below x.heap.size x w') : Calls Tryz.prog 20 #[.string s] w fun e w' => e = .returned (.tuple #[.agg #[.string u, .string v], .int .i64 er]) ∧ Below w.heap.size w w' := by
  have KR := Blk.new w #[.string ⟨#[]⟩, .string ⟨#[]⟩] 23
  have pr : Below w.heap.size w (w.alloc (.cells #[.string ⟨#[]⟩, .string ⟨#[]⟩] 23)) := (Below.refl _ _).alloc (Nat.le_refl _) _
  have z0 := KR.at 0
  have z1 := KR.at 1
  have x0 := KR.free 0
  have x1 := KR.free 1
  simp at z0 z1
  have he : s.toList.isEmpty = false := by rw [empty_iff, decide_eq_false_iff_not]; omega
  have zS : S.size ≤ 65536 := by
    rw [← hS]
    split
    · rw [ByteArray.size_extract]; omega
    · omega
  have HB' : Hid (∀ (j : Nat) (h : j < S.size), j < i → S[j].toNat ≠ 47 ∧ S[j].toNat ≠ 46) := HB
  clear HB
  go_enter Tryz.func20, Tryz.ntmps20
  go_upto_if 22 with fail
  generalize w.alloc (.cells #[.string ⟨#[]⟩, .string ⟨#[]⟩] 23) = WA at *
  go_cut [0] (fun a wc => a = .string S ∧ wc = WA)
  case first =>
    cases g
    all_goals
      go_wp2_with fail
      go_meet
      case rel => exact ⟨by first | (rw [← hS]; rfl) | rw [← hS]; rfl, rfl⟩
  case rest =>
    obtain ⟨rfl, rfl⟩ := hcut
    clear hS he hg
    go_wp2_with fail
    go_loop [5] (fun v => ∃ j : Nat, j ≤ i ∧ v = .int .i64 (j : Int)) (fun v => i - (RowKit.intOf v).toNat)
    case atStart => exact ⟨0, Nat.zero_le _, rfl⟩
    case round =>
      obtain ⟨j, hj, rfl⟩ := hrel
      by_cases hlt : j < i
      · have hz : j < S.size := by omega
        obtain ⟨d1, d2⟩ := HB'.out j hz hlt
        have d3 : ((S[j].toNat : Int) == 47) = false := by rw [beq_eq_false_iff_ne]; omega
        have d4 : ((S[j].toNat : Int) == 46) = false := by rw [beq_eq_false_iff_ne]; omega
        have d5 : ((S[j].toNat : Int) != 47) = true := by rw [bne_iff_ne]; omega
        have d6 : ((S[j].toNat : Int) != 46) = true := by rw [bne_iff_ne]; omega
        have d7 : ¬ (S[j].toNat : Int) = 47 := by omega
        have d8 : ¬ (S[j].toNat : Int) = 46 := by omega
        clear d1 d2
        go_wp2
        go_round
        case rel => exact ⟨j + 1, by omega, by go_num⟩
        case measure => simp [RowKit.intOf]; omega
      · obtain rfl : j = i := by omega
        have i0 : (0 : Int) ≤ (j : Int) := by omega
        have i1 : (j : Int) ≤ (S.size : Int) := by omega
        clear HB' hlt hj
        have iN : ¬ (j : Int) < (S.size : Int) := by omega
        cases g
        all_goals (first | ((have hz : zN = false := by simpa using hgz); subst hz) | skip)
        all_goals
          go_wp2_with (first
            | (go_at_call 46; (have mk4 := p3); (refine (OU _ _ n3).mono ?_); (rintro e w4 ⟨rfl, b4⟩); (have p4 := bel' p3 b4); (have KR4 := KR3.below b4 KR3.lt); (have n2___ := n2__.grow b4); (have nd__ := nd_.grow b4); (have n3_ := n3.grow b4); (have z0 := KR4.at 0); (have z1 := KR4.at 1); (have x0 := KR4.free 0); (have x1 := KR4.free 1); (simp at z0 z1))
            | (go_at_call 80; (have mk3 := pd); (refine (MK _ _ _ _ _ _ _ n2_ nd).mono ?_); (rintro e w3 ⟨g3, a3, l3, c3, a3', l3', c3', rfl, n3, b3⟩); (have p3 := bel' pd b3); (have KR3 := KRd.below b3 KRd.lt); (have n2__ := n2_.grow b3); (have nd_ := nd.grow b3))
            | (go_at_call 76; (have mk2 := p1); (refine (R1 _).mono ?_); (rintro e w2 ⟨a2, l2, c2, rfl, n2, b2⟩); (have p2 := bel' p1 b2); (have KR2 := KR1.below b2 KR1.lt); (have y2 := nl_zero n2); (rw [hN] at y2); (have ad := (Below.refl w2.heap.size w2).alloc (Nat.le_refl _) (.cells #[.int .i64 1] 3)); (have pd := bel' p2 ad); (have KRd := KR2.below ad KR2.lt); (have nd : Nl (w2.alloc (.cells #[.int .i64 1] 3)) (some ⟨w2.heap.size, 0, none⟩) 1 1 1 := ⟨[1], L.rd_one (by simp) (by decide) (by decide), L.nm_one, L.val_one⟩); (have n2_ := n2.grow ad))
            | (go_at_call 75; (have mk1 := pr); (refine (DI _).mono ?_); (rintro e w1 ⟨rfl, hw1⟩); (subst w1); (have p1 := pr); (have KR1 := KR))
            | fail)
          have KE := bput (bput KR4 0 (.string u)) 1 (.string v)
          have bE := (p4.setCell (p := ⟨w.heap.size, 0, none⟩) (Nat.le_refl _) (.string u)).setCell (p := ⟨w.heap.size, 1, none⟩) (Nat.le_refl _) (.string v)
          have q0 := KE.at 0
          have q1 := KE.at 1
          simp at q0 q1
          exact bodyPost_ret (v := .tuple #[.agg #[.string u, .string v], .int .i64 er]) (by simp [results, Tryz.results20, go_sem, q0, q1]) rfl ⟨rfl, bE⟩
set_option maxRecDepth 100000 in
set_option maxHeartbeats 6400000 in
theorem RP_slash_bad (s S : ByteArray) (g : Bool) (i : Nat) (F K : ByteArray) (N : Int) (w : World) (h0 : 0 < s.size) (hs : ¬ (s.size : Int) > 65536) (hg : (((s[0].toNat : Int)) == 45) = g) (hS : (if g = true then s.extract 1 s.size else s) = S) (hi : i ≤ S.size) (HB : ∀ (j : Nat) (h : j < S.size), j < i → S[j].toNat ≠ 47 ∧ S[j].toNat ≠ 46) (hF : S.extract 0 i = F) (hsz : i < S.size) (hc : S[i].toNat = 47) (hK : S.extract (i + 1) S.size = K) (DI : ∀ x, Calls Tryz.prog 75 #[.string F] x fun e w' => e = .returned (.bool true) ∧ w' = x) (R1 : ∀ x, Calls Tryz.prog 76 #[.string F] x fun e w' => ∃ a l c, e = .returned (.slice a l c) ∧ Nl w' a l c N ∧ Below x.heap.size x w') (DB : ∀ x, Calls Tryz.prog 75 #[.string K] x fun e w' => e = .returned (.bool false) ∧ w' = x) : Calls Tryz.prog 20 #[.string s] w fun e w' => e = .returned (.tuple #[.agg #[.string ⟨#[]⟩, .string ⟨#[]⟩], .int .i64 2]) ∧ Below w.heap.size w w' := by
  have KR := Blk.new w #[.string ⟨#[]⟩, .string ⟨#[]⟩] 23
  have pr : Below w.heap.size w (w.alloc (.cells #[.string ⟨#[]⟩, .string ⟨#[]⟩] 23)) := (Below.refl _ _).alloc (Nat.le_refl _) _
  have z0 := KR.at 0
  have z1 := KR.at 1
  have x0 := KR.free 0
  have x1 := KR.free 1
  simp at z0 z1
  have he : s.toList.isEmpty = false := by rw [empty_iff, decide_eq_false_iff_not]; omega
  have zS : S.size ≤ 65536 := by
    rw [← hS]
    split
    · rw [ByteArray.size_extract]; omega
    · omega
  have HB' : Hid (∀ (j : Nat) (h : j < S.size), j < i → S[j].toNat ≠ 47 ∧ S[j].toNat ≠ 46) := HB
  clear HB
  go_enter Tryz.func20, Tryz.ntmps20
  go_upto_if 22 with fail
  generalize w.alloc (.cells #[.string ⟨#[]⟩, .string ⟨#[]⟩] 23) = WA at *
  go_cut [0] (fun a wc => a = .string S ∧ wc = WA)
  case first =>
    cases g
    all_goals
      go_wp2_with fail
      go_meet
      case rel => exact ⟨by first | (rw [← hS]; rfl) | rw [← hS]; rfl, rfl⟩
  case rest =>
    obtain ⟨rfl, rfl⟩ := hcut
    clear hS he hg
    go_wp2_with fail
    go_loop [5] (fun v => ∃ j : Nat, j ≤ i ∧ v = .int .i64 (j : Int)) (fun v => i - (RowKit.intOf v).toNat)
    case atStart => exact ⟨0, Nat.zero_le _, rfl⟩
    case round =>
      obtain ⟨j, hj, rfl⟩ := hrel
      by_cases hlt : j < i
      · have hz : j < S.size := by omega
        obtain ⟨d1, d2⟩ := HB'.out j hz hlt
        have d3 : ((S[j].toNat : Int) == 47) = false := by rw [beq_eq_false_iff_ne]; omega
        have d4 : ((S[j].toNat : Int) == 46) = false := by rw [beq_eq_false_iff_ne]; omega
        have d5 : ((S[j].toNat : Int) != 47) = true := by rw [bne_iff_ne]; omega
        have d6 : ((S[j].toNat : Int) != 46) = true := by rw [bne_iff_ne]; omega
        have d7 : ¬ (S[j].toNat : Int) = 47 := by omega
        have d8 : ¬ (S[j].toNat : Int) = 46 := by omega
        clear d1 d2
        go_wp2
        go_round
        case rel => exact ⟨j + 1, by omega, by go_num⟩
        case measure => simp [RowKit.intOf]; omega
      · obtain rfl : j = i := by omega
        have i0 : (0 : Int) ≤ (j : Int) := by omega
        have i1 : (j : Int) ≤ (S.size : Int) := by omega
        clear HB' hlt hj
        subst hF
        subst hK
        have iZ : j < S.size := hsz
        have iN : (j : Int) < (S.size : Int) := by omega
        have iS : ((S[j].toNat : Int) == 47) = true := by rw [beq_iff_eq]; omega
        have iS' : ((S[j].toNat : Int) != 47) = false := by rw [bne_eq_false_iff_eq]; omega
        have iS'' : (S[j].toNat : Int) = 47 := by omega
        have iW : IntKind.i64.wrap ((j : Int) + 1) = ((j + 1 : Nat) : Int) := by rw [show (j : Int) + 1 = ((j + 1 : Nat) : Int) by omega]; exact Wt.wrapI _ (by omega) (by omega)
        have i2 : (0 : Int) ≤ ((j + 1 : Nat) : Int) := by omega
        have i3 : ((j + 1 : Nat) : Int) ≤ (S.size : Int) := by omega
        all_goals
          go_wp2_with (first
            | (go_at_call 75; (have mk3 := pd); (refine (DB _).mono ?_); (rintro e w3 ⟨rfl, hw3⟩); (subst w3); (have p3 := pd); (have KR3 := KRd); (have z0 := KR3.at 0); (have z1 := KR3.at 1); (have x0 := KR3.free 0); (have x1 := KR3.free 1); (simp at z0 z1))
            | (go_at_call 76; (have mk2 := p1); (refine (R1 _).mono ?_); (rintro e w2 ⟨a2, l2, c2, rfl, n2, b2⟩); (have p2 := bel' p1 b2); (have KR2 := KR1.below b2 KR1.lt); (have ad := (Below.refl w2.heap.size w2).alloc (Nat.le_refl _) (.cells #[.int .i64 1] 3)); (have pd := bel' p2 ad); (have KRd := KR2.below ad KR2.lt); (have nd : Nl (w2.alloc (.cells #[.int .i64 1] 3)) (some ⟨w2.heap.size, 0, none⟩) 1 1 1 := ⟨[1], L.rd_one (by simp) (by decide) (by decide), L.nm_one, L.val_one⟩); (have n2_ := n2.grow ad))
            | (go_at_call 75; (have mk1 := pr); (refine (DI _).mono ?_); (rintro e w1 ⟨rfl, hw1⟩); (subst w1); (have p1 := pr); (have KR1 := KR))
            | fail)
          have KE := bput (bput KR3 0 (.string ⟨#[]⟩)) 1 (.string ⟨#[]⟩)
          have bE := (p3.setCell (p := ⟨w.heap.size, 0, none⟩) (Nat.le_refl _) (.string ⟨#[]⟩)).setCell (p := ⟨w.heap.size, 1, none⟩) (Nat.le_refl _) (.string ⟨#[]⟩)
          have q0 := KE.at 0
          have q1 := KE.at 1
          simp at q0 q1
          exact bodyPost_ret (v := .tuple #[.agg #[.string ⟨#[]⟩, .string ⟨#[]⟩], .int .i64 2]) (by simp [results, Tryz.results20, go_sem, q0, q1]) rfl ⟨rfl, bE⟩
set_option maxRecDepth 100000 in
set_option maxHeartbeats 6400000 in
theorem RP_slash_form (s S : ByteArray) (g : Bool) (i : Nat) (F K : ByteArray) (N M : Int) (zN : Bool) (w : World) (h0 : 0 < s.size) (hs : ¬ (s.size : Int) > 65536) (hg : (((s[0].toNat : Int)) == 45) = g) (hS : (if g = true then s.extract 1 s.size else s) = S) (hi : i ≤ S.size) (HB : ∀ (j : Nat) (h : j < S.size), j < i → S[j].toNat ≠ 47 ∧ S[j].toNat ≠ 46) (hF : S.extract 0 i = F) (hsz : i < S.size) (hc : S[i].toNat = 47) (hK : S.extract (i + 1) S.size = K) (hN : decide (N = 0) = zN) (hgz : (g && zN) = true) (DI : ∀ x, Calls Tryz.prog 75 #[.string F] x fun e w' => e = .returned (.bool true) ∧ w' = x) (R1 : ∀ x, Calls Tryz.prog 76 #[.string F] x fun e w' => ∃ a l c, e = .returned (.slice a l c) ∧ Nl w' a l c N ∧ Below x.heap.size x w') (DB : ∀ x, Calls Tryz.prog 75 #[.string K] x fun e w' => e = .returned (.bool true) ∧ w' = x) (R2 : ∀ x, Calls Tryz.prog 76 #[.string K] x fun e w' => ∃ a l c, e = .returned (.slice a l c) ∧ Nl w' a l c M ∧ Below x.heap.size x w') : Calls Tryz.prog 20 #[.string s] w fun e w' => e = .returned (.tuple #[.agg #[.string ⟨#[]⟩, .string ⟨#[]⟩], .int .i64 2]) ∧ Below w.heap.size w w' := by
  have KR := Blk.new w #[.string ⟨#[]⟩, .string ⟨#[]⟩] 23
  have pr : Below w.heap.size w (w.alloc (.cells #[.string ⟨#[]⟩, .string ⟨#[]⟩] 23)) := (Below.refl _ _).alloc (Nat.le_refl _) _
  have z0 := KR.at 0
  have z1 := KR.at 1
  have x0 := KR.free 0
  have x1 := KR.free 1
  simp at z0 z1
  have he : s.toList.isEmpty = false := by rw [empty_iff, decide_eq_false_iff_not]; omega
  have zS : S.size ≤ 65536 := by
    rw [← hS]
    split
    · rw [ByteArray.size_extract]; omega
    · omega
  have HB' : Hid (∀ (j : Nat) (h : j < S.size), j < i → S[j].toNat ≠ 47 ∧ S[j].toNat ≠ 46) := HB
  clear HB
  go_enter Tryz.func20, Tryz.ntmps20
  go_upto_if 22 with fail
  generalize w.alloc (.cells #[.string ⟨#[]⟩, .string ⟨#[]⟩] 23) = WA at *
  go_cut [0] (fun a wc => a = .string S ∧ wc = WA)
  case first =>
    cases g
    all_goals
      go_wp2_with fail
      go_meet
      case rel => exact ⟨by first | (rw [← hS]; rfl) | rw [← hS]; rfl, rfl⟩
  case rest =>
    obtain ⟨rfl, rfl⟩ := hcut
    clear hS he hg
    go_wp2_with fail
    go_loop [5] (fun v => ∃ j : Nat, j ≤ i ∧ v = .int .i64 (j : Int)) (fun v => i - (RowKit.intOf v).toNat)
    case atStart => exact ⟨0, Nat.zero_le _, rfl⟩
    case round =>
      obtain ⟨j, hj, rfl⟩ := hrel
      by_cases hlt : j < i
      · have hz : j < S.size := by omega
        obtain ⟨d1, d2⟩ := HB'.out j hz hlt
        have d3 : ((S[j].toNat : Int) == 47) = false := by rw [beq_eq_false_iff_ne]; omega
        have d4 : ((S[j].toNat : Int) == 46) = false := by rw [beq_eq_false_iff_ne]; omega
        have d5 : ((S[j].toNat : Int) != 47) = true := by rw [bne_iff_ne]; omega
        have d6 : ((S[j].toNat : Int) != 46) = true := by rw [bne_iff_ne]; omega
        have d7 : ¬ (S[j].toNat : Int) = 47 := by omega
        have d8 : ¬ (S[j].toNat : Int) = 46 := by omega
        clear d1 d2
        go_wp2
        go_round
        case rel => exact ⟨j + 1, by omega, by go_num⟩
        case measure => simp [RowKit.intOf]; omega
      · obtain rfl : j = i := by omega
        have i0 : (0 : Int) ≤ (j : Int) := by omega
        have i1 : (j : Int) ≤ (S.size : Int) := by omega
        clear HB' hlt hj
        subst hF
        subst hK
        have iZ : j < S.size := hsz
        have iN : (j : Int) < (S.size : Int) := by omega
        have iS : ((S[j].toNat : Int) == 47) = true := by rw [beq_iff_eq]; omega
        have iS' : ((S[j].toNat : Int) != 47) = false := by rw [bne_eq_false_iff_eq]; omega
        have iS'' : (S[j].toNat : Int) = 47 := by omega
        have iW : IntKind.i64.wrap ((j : Int) + 1) = ((j + 1 : Nat) : Int) := by rw [show (j : Int) + 1 = ((j + 1 : Nat) : Int) by omega]; exact Wt.wrapI _ (by omega) (by omega)
        have i2 : (0 : Int) ≤ ((j + 1 : Nat) : Int) := by omega
        have i3 : ((j + 1 : Nat) : Int) ≤ (S.size : Int) := by omega
        rw [Bool.and_eq_true] at hgz
        obtain ⟨rfl, rfl⟩ := hgz
        all_goals
          go_wp2_with (first
            | (go_at_call 76; (have mk4 := p3); (refine (R2 _).mono ?_); (rintro e w4 ⟨a4, l4, c4, rfl, n4, b4⟩); (have p4 := bel' p3 b4); (have KR4 := KR3.below b4 KR3.lt); (have n2__ := n2_.grow b4); (have nd_ := nd.grow b4); (have z0 := KR4.at 0); (have z1 := KR4.at 1); (have x0 := KR4.free 0); (have x1 := KR4.free 1); (simp at z0 z1))
            | (go_at_call 75; (have mk3 := pd); (refine (DB _).mono ?_); (rintro e w3 ⟨rfl, hw3⟩); (subst w3); (have p3 := pd); (have KR3 := KRd))
            | (go_at_call 76; (have mk2 := p1); (refine (R1 _).mono ?_); (rintro e w2 ⟨a2, l2, c2, rfl, n2, b2⟩); (have p2 := bel' p1 b2); (have KR2 := KR1.below b2 KR1.lt); (have y2 := nl_zero n2); (rw [hN] at y2); (have ad := (Below.refl w2.heap.size w2).alloc (Nat.le_refl _) (.cells #[.int .i64 1] 3)); (have pd := bel' p2 ad); (have KRd := KR2.below ad KR2.lt); (have nd : Nl (w2.alloc (.cells #[.int .i64 1] 3)) (some ⟨w2.heap.size, 0, none⟩) 1 1 1 := ⟨[1], L.rd_one (by simp) (by decide) (by decide), L.nm_one, L.val_one⟩); (have n2_ := n2.grow ad))
            | (go_at_call 75; (have mk1 := pr); (refine (DI _).mono ?_); (rintro e w1 ⟨rfl, hw1⟩); (subst w1); (have p1 := pr); (have KR1 := KR))
            | fail)
          have KE := bput (bput KR4 0 (.string ⟨#[]⟩)) 1 (.string ⟨#[]⟩)
          have bE := (p4.setCell (p := ⟨w.heap.size, 0, none⟩) (Nat.le_refl _) (.string ⟨#[]⟩)).setCell (p := ⟨w.heap.size, 1, none⟩) (Nat.le_refl _) (.string ⟨#[]⟩)
          have q0 := KE.at 0
          have q1 := KE.at 1
          simp at q0 q1
          exact bodyPost_ret (v := .tuple #[.agg #[.string ⟨#[]⟩, .string ⟨#[]⟩], .int .i64 2]) (by simp [results, Tryz.results20, go_sem, q0, q1]) rfl ⟨rfl, bE⟩
set_option maxRecDepth 100000 in
set_option maxHeartbeats 6400000 in
theorem RP_slash_zero (s S : ByteArray) (g : Bool) (i : Nat) (F K : ByteArray) (N M : Int) (zN : Bool) (w : World) (h0 : 0 < s.size) (hs : ¬ (s.size : Int) > 65536) (hg : (((s[0].toNat : Int)) == 45) = g) (hS : (if g = true then s.extract 1 s.size else s) = S) (hi : i ≤ S.size) (HB : ∀ (j : Nat) (h : j < S.size), j < i → S[j].toNat ≠ 47 ∧ S[j].toNat ≠ 46) (hF : S.extract 0 i = F) (hsz : i < S.size) (hc : S[i].toNat = 47) (hK : S.extract (i + 1) S.size = K) (hN : decide (N = 0) = zN) (hgz : (g && zN) = false) (hM : decide (M = 0) = true) (DI : ∀ x, Calls Tryz.prog 75 #[.string F] x fun e w' => e = .returned (.bool true) ∧ w' = x) (R1 : ∀ x, Calls Tryz.prog 76 #[.string F] x fun e w' => ∃ a l c, e = .returned (.slice a l c) ∧ Nl w' a l c N ∧ Below x.heap.size x w') (DB : ∀ x, Calls Tryz.prog 75 #[.string K] x fun e w' => e = .returned (.bool true) ∧ w' = x) (R2 : ∀ x, Calls Tryz.prog 76 #[.string K] x fun e w' => ∃ a l c, e = .returned (.slice a l c) ∧ Nl w' a l c M ∧ Below x.heap.size x w') : Calls Tryz.prog 20 #[.string s] w fun e w' => e = .returned (.tuple #[.agg #[.string ⟨#[]⟩, .string ⟨#[]⟩], .int .i64 4]) ∧ Below w.heap.size w w' := by
  have KR := Blk.new w #[.string ⟨#[]⟩, .string ⟨#[]⟩] 23
  have pr : Below w.heap.size w (w.alloc (.cells #[.string ⟨#[]⟩, .string ⟨#[]⟩] 23)) := (Below.refl _ _).alloc (Nat.le_refl _) _
  have z0 := KR.at 0
  have z1 := KR.at 1
  have x0 := KR.free 0
  have x1 := KR.free 1
  simp at z0 z1
  have he : s.toList.isEmpty = false := by rw [empty_iff, decide_eq_false_iff_not]; omega
  have zS : S.size ≤ 65536 := by
    rw [← hS]
    split
    · rw [ByteArray.size_extract]; omega
    · omega
  have HB' : Hid (∀ (j : Nat) (h : j < S.size), j < i → S[j].toNat ≠ 47 ∧ S[j].toNat ≠ 46) := HB
  clear HB
  go_enter Tryz.func20, Tryz.ntmps20
  go_upto_if 22 with fail
  generalize w.alloc (.cells #[.string ⟨#[]⟩, .string ⟨#[]⟩] 23) = WA at *
  go_cut [0] (fun a wc => a = .string S ∧ wc = WA)
  case first =>
    cases g
    all_goals
      go_wp2_with fail
      go_meet
      case rel => exact ⟨by first | (rw [← hS]; rfl) | rw [← hS]; rfl, rfl⟩
  case rest =>
    obtain ⟨rfl, rfl⟩ := hcut
    clear hS he hg
    go_wp2_with fail
    go_loop [5] (fun v => ∃ j : Nat, j ≤ i ∧ v = .int .i64 (j : Int)) (fun v => i - (RowKit.intOf v).toNat)
    case atStart => exact ⟨0, Nat.zero_le _, rfl⟩
    case round =>
      obtain ⟨j, hj, rfl⟩ := hrel
      by_cases hlt : j < i
      · have hz : j < S.size := by omega
        obtain ⟨d1, d2⟩ := HB'.out j hz hlt
        have d3 : ((S[j].toNat : Int) == 47) = false := by rw [beq_eq_false_iff_ne]; omega
        have d4 : ((S[j].toNat : Int) == 46) = false := by rw [beq_eq_false_iff_ne]; omega
        have d5 : ((S[j].toNat : Int) != 47) = true := by rw [bne_iff_ne]; omega
        have d6 : ((S[j].toNat : Int) != 46) = true := by rw [bne_iff_ne]; omega
        have d7 : ¬ (S[j].toNat : Int) = 47 := by omega
        have d8 : ¬ (S[j].toNat : Int) = 46 := by omega
        clear d1 d2
        go_wp2
        go_round
        case rel => exact ⟨j + 1, by omega, by go_num⟩
        case measure => simp [RowKit.intOf]; omega
      · obtain rfl : j = i := by omega
        have i0 : (0 : Int) ≤ (j : Int) := by omega
        have i1 : (j : Int) ≤ (S.size : Int) := by omega
        clear HB' hlt hj
        subst hF
        subst hK
        have iZ : j < S.size := hsz
        have iN : (j : Int) < (S.size : Int) := by omega
        have iS : ((S[j].toNat : Int) == 47) = true := by rw [beq_iff_eq]; omega
        have iS' : ((S[j].toNat : Int) != 47) = false := by rw [bne_eq_false_iff_eq]; omega
        have iS'' : (S[j].toNat : Int) = 47 := by omega
        have iW : IntKind.i64.wrap ((j : Int) + 1) = ((j + 1 : Nat) : Int) := by rw [show (j : Int) + 1 = ((j + 1 : Nat) : Int) by omega]; exact Wt.wrapI _ (by omega) (by omega)
        have i2 : (0 : Int) ≤ ((j + 1 : Nat) : Int) := by omega
        have i3 : ((j + 1 : Nat) : Int) ≤ (S.size : Int) := by omega
        cases g
        all_goals (first | ((have hz : zN = false := by simpa using hgz); subst hz) | skip)
        all_goals
          go_wp2_with (first
            | (go_at_call 76; (have mk4 := p3); (refine (R2 _).mono ?_); (rintro e w4 ⟨a4, l4, c4, rfl, n4, b4⟩); (have p4 := bel' p3 b4); (have KR4 := KR3.below b4 KR3.lt); (have n2__ := n2_.grow b4); (have nd_ := nd.grow b4); (have y4 := nl_zero n4); (rw [hM] at y4); (have z0 := KR4.at 0); (have z1 := KR4.at 1); (have x0 := KR4.free 0); (have x1 := KR4.free 1); (simp at z0 z1))
            | (go_at_call 75; (have mk3 := pd); (refine (DB _).mono ?_); (rintro e w3 ⟨rfl, hw3⟩); (subst w3); (have p3 := pd); (have KR3 := KRd))
            | (go_at_call 76; (have mk2 := p1); (refine (R1 _).mono ?_); (rintro e w2 ⟨a2, l2, c2, rfl, n2, b2⟩); (have p2 := bel' p1 b2); (have KR2 := KR1.below b2 KR1.lt); (have y2 := nl_zero n2); (rw [hN] at y2); (have ad := (Below.refl w2.heap.size w2).alloc (Nat.le_refl _) (.cells #[.int .i64 1] 3)); (have pd := bel' p2 ad); (have KRd := KR2.below ad KR2.lt); (have nd : Nl (w2.alloc (.cells #[.int .i64 1] 3)) (some ⟨w2.heap.size, 0, none⟩) 1 1 1 := ⟨[1], L.rd_one (by simp) (by decide) (by decide), L.nm_one, L.val_one⟩); (have n2_ := n2.grow ad))
            | (go_at_call 75; (have mk1 := pr); (refine (DI _).mono ?_); (rintro e w1 ⟨rfl, hw1⟩); (subst w1); (have p1 := pr); (have KR1 := KR))
            | fail)
          have KE := bput (bput KR4 0 (.string ⟨#[]⟩)) 1 (.string ⟨#[]⟩)
          have bE := (p4.setCell (p := ⟨w.heap.size, 0, none⟩) (Nat.le_refl _) (.string ⟨#[]⟩)).setCell (p := ⟨w.heap.size, 1, none⟩) (Nat.le_refl _) (.string ⟨#[]⟩)
          have q0 := KE.at 0
          have q1 := KE.at 1
          simp at q0 q1
          exact bodyPost_ret (v := .tuple #[.agg #[.string ⟨#[]⟩, .string ⟨#[]⟩], .int .i64 4]) (by simp [results, Tryz.results20, go_sem, q0, q1]) rfl ⟨rfl, bE⟩
set_option maxRecDepth 100000 in
set_option maxHeartbeats 6400000 in
theorem RP_slash_ok (s S : ByteArray) (g : Bool) (i : Nat) (F K u v : ByteArray) (N M : Int) (zN : Bool) (t : Rat) (er : Int) (w : World) (h0 : 0 < s.size) (hs : ¬ (s.size : Int) > 65536) (hg : (((s[0].toNat : Int)) == 45) = g) (hS : (if g = true then s.extract 1 s.size else s) = S) (hi : i ≤ S.size) (HB : ∀ (j : Nat) (h : j < S.size), j < i → S[j].toNat ≠ 47 ∧ S[j].toNat ≠ 46) (hF : S.extract 0 i = F) (hsz : i < S.size) (hc : S[i].toNat = 47) (hK : S.extract (i + 1) S.size = K) (hN : decide (N = 0) = zN) (hgz : (g && zN) = false) (hM : decide (M = 0) = false) (DI : ∀ x, Calls Tryz.prog 75 #[.string F] x fun e w' => e = .returned (.bool true) ∧ w' = x) (R1 : ∀ x, Calls Tryz.prog 76 #[.string F] x fun e w' => ∃ a l c, e = .returned (.slice a l c) ∧ Nl w' a l c N ∧ Below x.heap.size x w') (DB : ∀ x, Calls Tryz.prog 75 #[.string K] x fun e w' => e = .returned (.bool true) ∧ w' = x) (R2 : ∀ x, Calls Tryz.prog 76 #[.string K] x fun e w' => ∃ a l c, e = .returned (.slice a l c) ∧ Nl w' a l c M ∧ Below x.heap.size x w') (MK : ∀ x a l c a' l' c', Nl x a l c N → Nl x a' l' c' M → Calls Tryz.prog 80 #[.bool g, .slice a l c, .slice a' l' c'] x (Qf t x)) (OU : ∀ x v1, L.IsQ x v1 t → Calls Tryz.prog 46 #[v1] x fun e w' => e = .returned (.tuple #[.agg #[.string u, .string v], .int .i64 er]) ∧ Below x.heap.size x w') : Calls Tryz.prog 20 #[.string s] w fun e w' => e = .returned (.tuple #[.agg #[.string u, .string v], .int .i64 er]) ∧ Below w.heap.size w w' := by
  have KR := Blk.new w #[.string ⟨#[]⟩, .string ⟨#[]⟩] 23
  have pr : Below w.heap.size w (w.alloc (.cells #[.string ⟨#[]⟩, .string ⟨#[]⟩] 23)) := (Below.refl _ _).alloc (Nat.le_refl _) _
  have z0 := KR.at 0
  have z1 := KR.at 1
  have x0 := KR.free 0
  have x1 := KR.free 1
  simp at z0 z1
  have he : s.toList.isEmpty = false := by rw [empty_iff, decide_eq_false_iff_not]; omega
  have zS : S.size ≤ 65536 := by
    rw [← hS]
    split
    · rw [ByteArray.size_extract]; omega
    · omega
  have HB' : Hid (∀ (j : Nat) (h : j < S.size), j < i → S[j].toNat ≠ 47 ∧ S[j].toNat ≠ 46) := HB
  clear HB
  go_enter Tryz.func20, Tryz.ntmps20
  go_upto_if 22 with fail
  generalize w.alloc (.cells #[.string ⟨#[]⟩, .string ⟨#[]⟩] 23) = WA at *
  go_cut [0] (fun a wc => a = .string S ∧ wc = WA)
  case first =>
    cases g
    all_goals
      go_wp2_with fail
      go_meet
      case rel => exact ⟨by first | (rw [← hS]; rfl) | rw [← hS]; rfl, rfl⟩
  case rest =>
    obtain ⟨rfl, rfl⟩ := hcut
    clear hS he hg
    go_wp2_with fail
    go_loop [5] (fun v => ∃ j : Nat, j ≤ i ∧ v = .int .i64 (j : Int)) (fun v => i - (RowKit.intOf v).toNat)
    case atStart => exact ⟨0, Nat.zero_le _, rfl⟩
    case round =>
      obtain ⟨j, hj, rfl⟩ := hrel
      by_cases hlt : j < i
      · have hz : j < S.size := by omega
        obtain ⟨d1, d2⟩ := HB'.out j hz hlt
        have d3 : ((S[j].toNat : Int) == 47) = false := by rw [beq_eq_false_iff_ne]; omega
        have d4 : ((S[j].toNat : Int) == 46) = false := by rw [beq_eq_false_iff_ne]; omega
        have d5 : ((S[j].toNat : Int) != 47) = true := by rw [bne_iff_ne]; omega
        have d6 : ((S[j].toNat : Int) != 46) = true := by rw [bne_iff_ne]; omega
        have d7 : ¬ (S[j].toNat : Int) = 47 := by omega
        have d8 : ¬ (S[j].toNat : Int) = 46 := by omega
        clear d1 d2
        go_wp2
        go_round
        case rel => exact ⟨j + 1, by omega, by go_num⟩
        case measure => simp [RowKit.intOf]; omega
      · obtain rfl : j = i := by omega
        have i0 : (0 : Int) ≤ (j : Int) := by omega
        have i1 : (j : Int) ≤ (S.size : Int) := by omega
        clear HB' hlt hj
        subst hF
        subst hK
        have iZ : j < S.size := hsz
        have iN : (j : Int) < (S.size : Int) := by omega
        have iS : ((S[j].toNat : Int) == 47) = true := by rw [beq_iff_eq]; omega
        have iS' : ((S[j].toNat : Int) != 47) = false := by rw [bne_eq_false_iff_eq]; omega
        have iS'' : (S[j].toNat : Int) = 47 := by omega
        have iW : IntKind.i64.wrap ((j : Int) + 1) = ((j + 1 : Nat) : Int) := by rw [show (j : Int) + 1 = ((j + 1 : Nat) : Int) by omega]; exact Wt.wrapI _ (by omega) (by omega)
        have i2 : (0 : Int) ≤ ((j + 1 : Nat) : Int) := by omega
        have i3 : ((j + 1 : Nat) : Int) ≤ (S.size : Int) := by omega
        cases g
        all_goals (first | ((have hz : zN = false := by simpa using hgz); subst hz) | skip)
        all_goals
          go_wp2_with (first
            | (go_at_call 46; (have mk6 := p5); (refine (OU _ _ n5).mono ?_); (rintro e w6 ⟨rfl, b6⟩); (have p6 := bel' p5 b6); (have KR6 := KR5.below b6 KR5.lt); (have n2____ := n2___.grow b6); (have nd___ := nd__.grow b6); (have n4__ := n4_.grow b6); (have n5_ := n5.grow b6); (have z0 := KR6.at 0); (have z1 := KR6.at 1); (have x0 := KR6.free 0); (have x1 := KR6.free 1); (simp at z0 z1))
            | (go_at_call 80; (have mk5 := p4); (refine (MK _ _ _ _ _ _ _ n2__ n4).mono ?_); (rintro e w5 ⟨g5, a5, l5, c5, a5', l5', c5', rfl, n5, b5⟩); (have p5 := bel' p4 b5); (have KR5 := KR4.below b5 KR4.lt); (have n2___ := n2__.grow b5); (have nd__ := nd_.grow b5); (have n4_ := n4.grow b5))
            | (go_at_call 76; (have mk4 := p3); (refine (R2 _).mono ?_); (rintro e w4 ⟨a4, l4, c4, rfl, n4, b4⟩); (have p4 := bel' p3 b4); (have KR4 := KR3.below b4 KR3.lt); (have n2__ := n2_.grow b4); (have nd_ := nd.grow b4); (have y4 := nl_zero n4); (rw [hM] at y4))
            | (go_at_call 75; (have mk3 := pd); (refine (DB _).mono ?_); (rintro e w3 ⟨rfl, hw3⟩); (subst w3); (have p3 := pd); (have KR3 := KRd))
            | (go_at_call 76; (have mk2 := p1); (refine (R1 _).mono ?_); (rintro e w2 ⟨a2, l2, c2, rfl, n2, b2⟩); (have p2 := bel' p1 b2); (have KR2 := KR1.below b2 KR1.lt); (have y2 := nl_zero n2); (rw [hN] at y2); (have ad := (Below.refl w2.heap.size w2).alloc (Nat.le_refl _) (.cells #[.int .i64 1] 3)); (have pd := bel' p2 ad); (have KRd := KR2.below ad KR2.lt); (have nd : Nl (w2.alloc (.cells #[.int .i64 1] 3)) (some ⟨w2.heap.size, 0, none⟩) 1 1 1 := ⟨[1], L.rd_one (by simp) (by decide) (by decide), L.nm_one, L.val_one⟩); (have n2_ := n2.grow ad))
            | (go_at_call 75; (have mk1 := pr); (refine (DI _).mono ?_); (rintro e w1 ⟨rfl, hw1⟩); (subst w1); (have p1 := pr); (have KR1 := KR))
            | fail)
          have KE := bput (bput KR6 0 (.string u)) 1 (.string v)
          have bE := (p6.setCell (p := ⟨w.heap.size, 0, none⟩) (Nat.le_refl _) (.string u)).setCell (p := ⟨w.heap.size, 1, none⟩) (Nat.le_refl _) (.string v)
          have q0 := KE.at 0
          have q1 := KE.at 1
          simp at q0 q1
          exact bodyPost_ret (v := .tuple #[.agg #[.string u, .string v], .int .i64 er]) (by simp [results, Tryz.results20, go_sem, q0, q1]) rfl ⟨rfl, bE⟩
set_option maxRecDepth 100000 in
set_option maxHeartbeats 6400000 in
theorem RP_point_bad (s S : ByteArray) (g : Bool) (i : Nat) (F K : ByteArray) (N : Int) (w : World) (h0 : 0 < s.size) (hs : ¬ (s.size : Int) > 65536) (hg : (((s[0].toNat : Int)) == 45) = g) (hS : (if g = true then s.extract 1 s.size else s) = S) (hi : i ≤ S.size) (HB : ∀ (j : Nat) (h : j < S.size), j < i → S[j].toNat ≠ 47 ∧ S[j].toNat ≠ 46) (hF : S.extract 0 i = F) (hsz : i < S.size) (hc : S[i].toNat = 46) (hK : S.extract (i + 1) S.size = K) (DI : ∀ x, Calls Tryz.prog 75 #[.string F] x fun e w' => e = .returned (.bool true) ∧ w' = x) (R1 : ∀ x, Calls Tryz.prog 76 #[.string F] x fun e w' => ∃ a l c, e = .returned (.slice a l c) ∧ Nl w' a l c N ∧ Below x.heap.size x w') (AL : ∀ x, Calls Tryz.prog 77 #[.string K] x fun e w' => e = .returned (.bool false) ∧ w' = x) : Calls Tryz.prog 20 #[.string s] w fun e w' => e = .returned (.tuple #[.agg #[.string ⟨#[]⟩, .string ⟨#[]⟩], .int .i64 2]) ∧ Below w.heap.size w w' := by
  have KR := Blk.new w #[.string ⟨#[]⟩, .string ⟨#[]⟩] 23
  have pr : Below w.heap.size w (w.alloc (.cells #[.string ⟨#[]⟩, .string ⟨#[]⟩] 23)) := (Below.refl _ _).alloc (Nat.le_refl _) _
  have z0 := KR.at 0
  have z1 := KR.at 1
  have x0 := KR.free 0
  have x1 := KR.free 1
  simp at z0 z1
  have he : s.toList.isEmpty = false := by rw [empty_iff, decide_eq_false_iff_not]; omega
  have zS : S.size ≤ 65536 := by
    rw [← hS]
    split
    · rw [ByteArray.size_extract]; omega
    · omega
  have HB' : Hid (∀ (j : Nat) (h : j < S.size), j < i → S[j].toNat ≠ 47 ∧ S[j].toNat ≠ 46) := HB
  clear HB
  go_enter Tryz.func20, Tryz.ntmps20
  go_upto_if 22 with fail
  generalize w.alloc (.cells #[.string ⟨#[]⟩, .string ⟨#[]⟩] 23) = WA at *
  go_cut [0] (fun a wc => a = .string S ∧ wc = WA)
  case first =>
    cases g
    all_goals
      go_wp2_with fail
      go_meet
      case rel => exact ⟨by first | (rw [← hS]; rfl) | rw [← hS]; rfl, rfl⟩
  case rest =>
    obtain ⟨rfl, rfl⟩ := hcut
    clear hS he hg
    go_wp2_with fail
    go_loop [5] (fun v => ∃ j : Nat, j ≤ i ∧ v = .int .i64 (j : Int)) (fun v => i - (RowKit.intOf v).toNat)
    case atStart => exact ⟨0, Nat.zero_le _, rfl⟩
    case round =>
      obtain ⟨j, hj, rfl⟩ := hrel
      by_cases hlt : j < i
      · have hz : j < S.size := by omega
        obtain ⟨d1, d2⟩ := HB'.out j hz hlt
        have d3 : ((S[j].toNat : Int) == 47) = false := by rw [beq_eq_false_iff_ne]; omega
        have d4 : ((S[j].toNat : Int) == 46) = false := by rw [beq_eq_false_iff_ne]; omega
        have d5 : ((S[j].toNat : Int) != 47) = true := by rw [bne_iff_ne]; omega
        have d6 : ((S[j].toNat : Int) != 46) = true := by rw [bne_iff_ne]; omega
        have d7 : ¬ (S[j].toNat : Int) = 47 := by omega
        have d8 : ¬ (S[j].toNat : Int) = 46 := by omega
        clear d1 d2
        go_wp2
        go_round
        case rel => exact ⟨j + 1, by omega, by go_num⟩
        case measure => simp [RowKit.intOf]; omega
      · obtain rfl : j = i := by omega
        have i0 : (0 : Int) ≤ (j : Int) := by omega
        have i1 : (j : Int) ≤ (S.size : Int) := by omega
        clear HB' hlt hj
        subst hF
        subst hK
        have iZ : j < S.size := hsz
        have iN : (j : Int) < (S.size : Int) := by omega
        have iS : ((S[j].toNat : Int) == 47) = false := by rw [beq_eq_false_iff_ne]; omega
        have iS' : ((S[j].toNat : Int) != 47) = true := by rw [bne_iff_ne]; omega
        have iS'' : ¬ (S[j].toNat : Int) = 47 := by omega
        have iP' : ((S[j].toNat : Int) != 46) = false := by rw [bne_eq_false_iff_eq]; omega
        have iP'' : (S[j].toNat : Int) = 46 := by omega
        have iP : ((S[j].toNat : Int) == 46) = true := by rw [beq_iff_eq]; omega
        have iW : IntKind.i64.wrap ((j : Int) + 1) = ((j + 1 : Nat) : Int) := by rw [show (j : Int) + 1 = ((j + 1 : Nat) : Int) by omega]; exact Wt.wrapI _ (by omega) (by omega)
        have i2 : (0 : Int) ≤ ((j + 1 : Nat) : Int) := by omega
        have i3 : ((j + 1 : Nat) : Int) ≤ (S.size : Int) := by omega
        all_goals
          go_wp2_with (first
            | (go_at_call 77; (have mk3 := pd); (refine (AL _).mono ?_); (rintro e w3 ⟨rfl, hw3⟩); (subst w3); (have p3 := pd); (have KR3 := KRd); (have z0 := KR3.at 0); (have z1 := KR3.at 1); (have x0 := KR3.free 0); (have x1 := KR3.free 1); (simp at z0 z1))
            | (go_at_call 76; (have mk2 := p1); (refine (R1 _).mono ?_); (rintro e w2 ⟨a2, l2, c2, rfl, n2, b2⟩); (have p2 := bel' p1 b2); (have KR2 := KR1.below b2 KR1.lt); (have ad := (Below.refl w2.heap.size w2).alloc (Nat.le_refl _) (.cells #[.int .i64 1] 3)); (have pd := bel' p2 ad); (have KRd := KR2.below ad KR2.lt); (have nd : Nl (w2.alloc (.cells #[.int .i64 1] 3)) (some ⟨w2.heap.size, 0, none⟩) 1 1 1 := ⟨[1], L.rd_one (by simp) (by decide) (by decide), L.nm_one, L.val_one⟩); (have n2_ := n2.grow ad))
            | (go_at_call 75; (have mk1 := pr); (refine (DI _).mono ?_); (rintro e w1 ⟨rfl, hw1⟩); (subst w1); (have p1 := pr); (have KR1 := KR))
            | fail)
          have KE := bput (bput KR3 0 (.string ⟨#[]⟩)) 1 (.string ⟨#[]⟩)
          have bE := (p3.setCell (p := ⟨w.heap.size, 0, none⟩) (Nat.le_refl _) (.string ⟨#[]⟩)).setCell (p := ⟨w.heap.size, 1, none⟩) (Nat.le_refl _) (.string ⟨#[]⟩)
          have q0 := KE.at 0
          have q1 := KE.at 1
          simp at q0 q1
          exact bodyPost_ret (v := .tuple #[.agg #[.string ⟨#[]⟩, .string ⟨#[]⟩], .int .i64 2]) (by simp [results, Tryz.results20, go_sem, q0, q1]) rfl ⟨rfl, bE⟩
set_option maxRecDepth 100000 in
set_option maxHeartbeats 6400000 in
theorem RP_point_form (s S : ByteArray) (g : Bool) (i : Nat) (F K : ByteArray) (N M T P V : Int) (zN : Bool) (w : World) (h0 : 0 < s.size) (hs : ¬ (s.size : Int) > 65536) (hg : (((s[0].toNat : Int)) == 45) = g) (hS : (if g = true then s.extract 1 s.size else s) = S) (hi : i ≤ S.size) (HB : ∀ (j : Nat) (h : j < S.size), j < i → S[j].toNat ≠ 47 ∧ S[j].toNat ≠ 46) (hF : S.extract 0 i = F) (hsz : i < S.size) (hc : S[i].toNat = 46) (hK : S.extract (i + 1) S.size = K) (hN : decide (V = 0) = zN) (hgz : (g && zN) = true) (DI : ∀ x, Calls Tryz.prog 75 #[.string F] x fun e w' => e = .returned (.bool true) ∧ w' = x) (R1 : ∀ x, Calls Tryz.prog 76 #[.string F] x fun e w' => ∃ a l c, e = .returned (.slice a l c) ∧ Nl w' a l c N ∧ Below x.heap.size x w') (AL : ∀ x, Calls Tryz.prog 77 #[.string K] x fun e w' => e = .returned (.bool true) ∧ w' = x) (R2 : ∀ x, Calls Tryz.prog 76 #[.string K] x fun e w' => ∃ a l c, e = .returned (.slice a l c) ∧ Nl w' a l c M ∧ Below x.heap.size x w') (TE : ∀ x, Calls Tryz.prog 70 #[.int .i64 ((S.size - (i + 1) : Nat) : Int)] x fun e w' => ∃ a l c, e = .returned (.slice a l c) ∧ Nl w' a l c T ∧ Below x.heap.size x w') (MU : ∀ x a l c a' l' c', Nl x a l c N → Nl x a' l' c' T → Calls Tryz.prog 78 #[.slice a l c, .slice a' l' c'] x fun e w' => ∃ a l c, e = .returned (.slice a l c) ∧ Nl w' a l c P ∧ Below x.heap.size x w') (AD : ∀ x a l c a' l' c', Nl x a l c P → Nl x a' l' c' M → Calls Tryz.prog 79 #[.slice a l c, .slice a' l' c'] x fun e w' => ∃ a l c, e = .returned (.slice a l c) ∧ Nl w' a l c V ∧ Below x.heap.size x w') : Calls Tryz.prog 20 #[.string s] w fun e w' => e = .returned (.tuple #[.agg #[.string ⟨#[]⟩, .string ⟨#[]⟩], .int .i64 2]) ∧ Below w.heap.size w w' := by
  have KR := Blk.new w #[.string ⟨#[]⟩, .string ⟨#[]⟩] 23
  have pr : Below w.heap.size w (w.alloc (.cells #[.string ⟨#[]⟩, .string ⟨#[]⟩] 23)) := (Below.refl _ _).alloc (Nat.le_refl _) _
  have z0 := KR.at 0
  have z1 := KR.at 1
  have x0 := KR.free 0
  have x1 := KR.free 1
  simp at z0 z1
  have he : s.toList.isEmpty = false := by rw [empty_iff, decide_eq_false_iff_not]; omega
  have zS : S.size ≤ 65536 := by
    rw [← hS]
    split
    · rw [ByteArray.size_extract]; omega
    · omega
  have HB' : Hid (∀ (j : Nat) (h : j < S.size), j < i → S[j].toNat ≠ 47 ∧ S[j].toNat ≠ 46) := HB
  clear HB
  go_enter Tryz.func20, Tryz.ntmps20
  go_upto_if 22 with fail
  generalize w.alloc (.cells #[.string ⟨#[]⟩, .string ⟨#[]⟩] 23) = WA at *
  go_cut [0] (fun a wc => a = .string S ∧ wc = WA)
  case first =>
    cases g
    all_goals
      go_wp2_with fail
      go_meet
      case rel => exact ⟨by first | (rw [← hS]; rfl) | rw [← hS]; rfl, rfl⟩
  case rest =>
    obtain ⟨rfl, rfl⟩ := hcut
    clear hS he hg
    go_wp2_with fail
    go_loop [5] (fun v => ∃ j : Nat, j ≤ i ∧ v = .int .i64 (j : Int)) (fun v => i - (RowKit.intOf v).toNat)
    case atStart => exact ⟨0, Nat.zero_le _, rfl⟩
    case round =>
      obtain ⟨j, hj, rfl⟩ := hrel
      by_cases hlt : j < i
      · have hz : j < S.size := by omega
        obtain ⟨d1, d2⟩ := HB'.out j hz hlt
        have d3 : ((S[j].toNat : Int) == 47) = false := by rw [beq_eq_false_iff_ne]; omega
        have d4 : ((S[j].toNat : Int) == 46) = false := by rw [beq_eq_false_iff_ne]; omega
        have d5 : ((S[j].toNat : Int) != 47) = true := by rw [bne_iff_ne]; omega
        have d6 : ((S[j].toNat : Int) != 46) = true := by rw [bne_iff_ne]; omega
        have d7 : ¬ (S[j].toNat : Int) = 47 := by omega
        have d8 : ¬ (S[j].toNat : Int) = 46 := by omega
        clear d1 d2
        go_wp2
        go_round
        case rel => exact ⟨j + 1, by omega, by go_num⟩
        case measure => simp [RowKit.intOf]; omega
      · obtain rfl : j = i := by omega
        have i0 : (0 : Int) ≤ (j : Int) := by omega
        have i1 : (j : Int) ≤ (S.size : Int) := by omega
        clear HB' hlt hj
        subst hF
        subst hK
        have iZ : j < S.size := hsz
        have iN : (j : Int) < (S.size : Int) := by omega
        have iS : ((S[j].toNat : Int) == 47) = false := by rw [beq_eq_false_iff_ne]; omega
        have iS' : ((S[j].toNat : Int) != 47) = true := by rw [bne_iff_ne]; omega
        have iS'' : ¬ (S[j].toNat : Int) = 47 := by omega
        have iP' : ((S[j].toNat : Int) != 46) = false := by rw [bne_eq_false_iff_eq]; omega
        have iP'' : (S[j].toNat : Int) = 46 := by omega
        have iP : ((S[j].toNat : Int) == 46) = true := by rw [beq_iff_eq]; omega
        have iW : IntKind.i64.wrap ((j : Int) + 1) = ((j + 1 : Nat) : Int) := by rw [show (j : Int) + 1 = ((j + 1 : Nat) : Int) by omega]; exact Wt.wrapI _ (by omega) (by omega)
        have i2 : (0 : Int) ≤ ((j + 1 : Nat) : Int) := by omega
        have i3 : ((j + 1 : Nat) : Int) ≤ (S.size : Int) := by omega
        rw [Bool.and_eq_true] at hgz
        obtain ⟨rfl, rfl⟩ := hgz
        all_goals
          go_wp2_with (first
            | (go_at_call 79; (have mk7 := p6); (refine (AD _ _ _ _ _ _ _ n6 n4__).mono ?_); (rintro e w7 ⟨a7, l7, c7, rfl, n7, b7⟩); (have p7 := bel' p6 b7); (have KR7 := KR6.below b7 KR6.lt); (have n2_____ := n2____.grow b7); (have nd____ := nd___.grow b7); (have n4___ := n4__.grow b7); (have n5__ := n5_.grow b7); (have n6_ := n6.grow b7); (have y7 := nl_zero n7); (rw [hN] at y7); (have z0 := KR7.at 0); (have z1 := KR7.at 1); (have x0 := KR7.free 0); (have x1 := KR7.free 1); (simp at z0 z1))
            | (go_at_call 78; (have mk6 := p5); (refine (MU _ _ _ _ _ _ _ n2___ n5).mono ?_); (rintro e w6 ⟨a6, l6, c6, rfl, n6, b6⟩); (have p6 := bel' p5 b6); (have KR6 := KR5.below b6 KR5.lt); (have n2____ := n2___.grow b6); (have nd___ := nd__.grow b6); (have n4__ := n4_.grow b6); (have n5_ := n5.grow b6))
            | (go_at_call 70; (have mk5 := p4); (refine (TE _).mono ?_); (rintro e w5 ⟨a5, l5, c5, rfl, n5, b5⟩); (have p5 := bel' p4 b5); (have KR5 := KR4.below b5 KR4.lt); (have n2___ := n2__.grow b5); (have nd__ := nd_.grow b5); (have n4_ := n4.grow b5))
            | (go_at_call 76; (have mk4 := p3); (refine (R2 _).mono ?_); (rintro e w4 ⟨a4, l4, c4, rfl, n4, b4⟩); (have p4 := bel' p3 b4); (have KR4 := KR3.below b4 KR3.lt); (have n2__ := n2_.grow b4); (have nd_ := nd.grow b4))
            | (go_at_call 77; (have mk3 := pd); (refine (AL _).mono ?_); (rintro e w3 ⟨rfl, hw3⟩); (subst w3); (have p3 := pd); (have KR3 := KRd))
            | (go_at_call 76; (have mk2 := p1); (refine (R1 _).mono ?_); (rintro e w2 ⟨a2, l2, c2, rfl, n2, b2⟩); (have p2 := bel' p1 b2); (have KR2 := KR1.below b2 KR1.lt); (have ad := (Below.refl w2.heap.size w2).alloc (Nat.le_refl _) (.cells #[.int .i64 1] 3)); (have pd := bel' p2 ad); (have KRd := KR2.below ad KR2.lt); (have nd : Nl (w2.alloc (.cells #[.int .i64 1] 3)) (some ⟨w2.heap.size, 0, none⟩) 1 1 1 := ⟨[1], L.rd_one (by simp) (by decide) (by decide), L.nm_one, L.val_one⟩); (have n2_ := n2.grow ad))
            | (go_at_call 75; (have mk1 := pr); (refine (DI _).mono ?_); (rintro e w1 ⟨rfl, hw1⟩); (subst w1); (have p1 := pr); (have KR1 := KR))
            | fail)
          have KE := bput (bput KR7 0 (.string ⟨#[]⟩)) 1 (.string ⟨#[]⟩)
          have bE := (p7.setCell (p := ⟨w.heap.size, 0, none⟩) (Nat.le_refl _) (.string ⟨#[]⟩)).setCell (p := ⟨w.heap.size, 1, none⟩) (Nat.le_refl _) (.string ⟨#[]⟩)
          have q0 := KE.at 0
          have q1 := KE.at 1
          simp at q0 q1
          exact bodyPost_ret (v := .tuple #[.agg #[.string ⟨#[]⟩, .string ⟨#[]⟩], .int .i64 2]) (by simp [results, Tryz.results20, go_sem, q0, q1]) rfl ⟨rfl, bE⟩
set_option maxRecDepth 100000 in
set_option maxHeartbeats 6400000 in
theorem RP_point_ok (s S : ByteArray) (g : Bool) (i : Nat) (F K u v : ByteArray) (N M T P V : Int) (zN : Bool) (t : Rat) (er : Int) (w : World) (h0 : 0 < s.size) (hs : ¬ (s.size : Int) > 65536) (hg : (((s[0].toNat : Int)) == 45) = g) (hS : (if g = true then s.extract 1 s.size else s) = S) (hi : i ≤ S.size) (HB : ∀ (j : Nat) (h : j < S.size), j < i → S[j].toNat ≠ 47 ∧ S[j].toNat ≠ 46) (hF : S.extract 0 i = F) (hsz : i < S.size) (hc : S[i].toNat = 46) (hK : S.extract (i + 1) S.size = K) (hN : decide (V = 0) = zN) (hgz : (g && zN) = false) (hT : decide (T = 0) = false) (DI : ∀ x, Calls Tryz.prog 75 #[.string F] x fun e w' => e = .returned (.bool true) ∧ w' = x) (R1 : ∀ x, Calls Tryz.prog 76 #[.string F] x fun e w' => ∃ a l c, e = .returned (.slice a l c) ∧ Nl w' a l c N ∧ Below x.heap.size x w') (AL : ∀ x, Calls Tryz.prog 77 #[.string K] x fun e w' => e = .returned (.bool true) ∧ w' = x) (R2 : ∀ x, Calls Tryz.prog 76 #[.string K] x fun e w' => ∃ a l c, e = .returned (.slice a l c) ∧ Nl w' a l c M ∧ Below x.heap.size x w') (TE : ∀ x, Calls Tryz.prog 70 #[.int .i64 ((S.size - (i + 1) : Nat) : Int)] x fun e w' => ∃ a l c, e = .returned (.slice a l c) ∧ Nl w' a l c T ∧ Below x.heap.size x w') (MU : ∀ x a l c a' l' c', Nl x a l c N → Nl x a' l' c' T → Calls Tryz.prog 78 #[.slice a l c, .slice a' l' c'] x fun e w' => ∃ a l c, e = .returned (.slice a l c) ∧ Nl w' a l c P ∧ Below x.heap.size x w') (AD : ∀ x a l c a' l' c', Nl x a l c P → Nl x a' l' c' M → Calls Tryz.prog 79 #[.slice a l c, .slice a' l' c'] x fun e w' => ∃ a l c, e = .returned (.slice a l c) ∧ Nl w' a l c V ∧ Below x.heap.size x w') (MK : ∀ x a l c a' l' c', Nl x a l c V → Nl x a' l' c' T → Calls Tryz.prog 80 #[.bool g, .slice a l c, .slice a' l' c'] x (Qf t x)) (OU : ∀ x v1, L.IsQ x v1 t → Calls Tryz.prog 46 #[v1] x fun e w' => e = .returned (.tuple #[.agg #[.string u, .string v], .int .i64 er]) ∧ Below x.heap.size x w') : Calls Tryz.prog 20 #[.string s] w fun e w' => e = .returned (.tuple #[.agg #[.string u, .string v], .int .i64 er]) ∧ Below w.heap.size w w' := by
  have KR := Blk.new w #[.string ⟨#[]⟩, .string ⟨#[]⟩] 23
  have pr : Below w.heap.size w (w.alloc (.cells #[.string ⟨#[]⟩, .string ⟨#[]⟩] 23)) := (Below.refl _ _).alloc (Nat.le_refl _) _
  have z0 := KR.at 0
  have z1 := KR.at 1
  have x0 := KR.free 0
  have x1 := KR.free 1
  simp at z0 z1
  have he : s.toList.isEmpty = false := by rw [empty_iff, decide_eq_false_iff_not]; omega
  have zS : S.size ≤ 65536 := by
    rw [← hS]
    split
    · rw [ByteArray.size_extract]; omega
    · omega
  have HB' : Hid (∀ (j : Nat) (h : j < S.size), j < i → S[j].toNat ≠ 47 ∧ S[j].toNat ≠ 46) := HB
  clear HB
  go_enter Tryz.func20, Tryz.ntmps20
  go_upto_if 22 with fail
  generalize w.alloc (.cells #[.string ⟨#[]⟩, .string ⟨#[]⟩] 23) = WA at *
  go_cut [0] (fun a wc => a = .string S ∧ wc = WA)
  case first =>
    cases g
    all_goals
      go_wp2_with fail
      go_meet
      case rel => exact ⟨by first | (rw [← hS]; rfl) | rw [← hS]; rfl, rfl⟩
  case rest =>
    obtain ⟨rfl, rfl⟩ := hcut
    clear hS he hg
    go_wp2_with fail
    go_loop [5] (fun v => ∃ j : Nat, j ≤ i ∧ v = .int .i64 (j : Int)) (fun v => i - (RowKit.intOf v).toNat)
    case atStart => exact ⟨0, Nat.zero_le _, rfl⟩
    case round =>
      obtain ⟨j, hj, rfl⟩ := hrel
      by_cases hlt : j < i
      · have hz : j < S.size := by omega
        obtain ⟨d1, d2⟩ := HB'.out j hz hlt
        have d3 : ((S[j].toNat : Int) == 47) = false := by rw [beq_eq_false_iff_ne]; omega
        have d4 : ((S[j].toNat : Int) == 46) = false := by rw [beq_eq_false_iff_ne]; omega
        have d5 : ((S[j].toNat : Int) != 47) = true := by rw [bne_iff_ne]; omega
        have d6 : ((S[j].toNat : Int) != 46) = true := by rw [bne_iff_ne]; omega
        have d7 : ¬ (S[j].toNat : Int) = 47 := by omega
        have d8 : ¬ (S[j].toNat : Int) = 46 := by omega
        clear d1 d2
        go_wp2
        go_round
        case rel => exact ⟨j + 1, by omega, by go_num⟩
        case measure => simp [RowKit.intOf]; omega
      · obtain rfl : j = i := by omega
        have i0 : (0 : Int) ≤ (j : Int) := by omega
        have i1 : (j : Int) ≤ (S.size : Int) := by omega
        clear HB' hlt hj
        subst hF
        subst hK
        have iZ : j < S.size := hsz
        have iN : (j : Int) < (S.size : Int) := by omega
        have iS : ((S[j].toNat : Int) == 47) = false := by rw [beq_eq_false_iff_ne]; omega
        have iS' : ((S[j].toNat : Int) != 47) = true := by rw [bne_iff_ne]; omega
        have iS'' : ¬ (S[j].toNat : Int) = 47 := by omega
        have iP' : ((S[j].toNat : Int) != 46) = false := by rw [bne_eq_false_iff_eq]; omega
        have iP'' : (S[j].toNat : Int) = 46 := by omega
        have iP : ((S[j].toNat : Int) == 46) = true := by rw [beq_iff_eq]; omega
        have iW : IntKind.i64.wrap ((j : Int) + 1) = ((j + 1 : Nat) : Int) := by rw [show (j : Int) + 1 = ((j + 1 : Nat) : Int) by omega]; exact Wt.wrapI _ (by omega) (by omega)
        have i2 : (0 : Int) ≤ ((j + 1 : Nat) : Int) := by omega
        have i3 : ((j + 1 : Nat) : Int) ≤ (S.size : Int) := by omega
        cases g
        all_goals (first | ((have hz : zN = false := by simpa using hgz); subst hz) | skip)
        all_goals
          go_wp2_with (first
            | (go_at_call 46; (have mk9 := p8); (refine (OU _ _ n8).mono ?_); (rintro e w9 ⟨rfl, b9⟩); (have p9 := bel' p8 b9); (have KR9 := KR8.below b9 KR8.lt); (have n2_______ := n2______.grow b9); (have nd______ := nd_____.grow b9); (have n4_____ := n4____.grow b9); (have n5____ := n5___.grow b9); (have n6___ := n6__.grow b9); (have n7__ := n7_.grow b9); (have n8_ := n8.grow b9); (have z0 := KR9.at 0); (have z1 := KR9.at 1); (have x0 := KR9.free 0); (have x1 := KR9.free 1); (simp at z0 z1))
            | (go_at_call 80; (have mk8 := p7); (refine (MK _ _ _ _ _ _ _ n7 n5__).mono ?_); (rintro e w8 ⟨g8, a8, l8, c8, a8', l8', c8', rfl, n8, b8⟩); (have p8 := bel' p7 b8); (have KR8 := KR7.below b8 KR7.lt); (have n2______ := n2_____.grow b8); (have nd_____ := nd____.grow b8); (have n4____ := n4___.grow b8); (have n5___ := n5__.grow b8); (have n6__ := n6_.grow b8); (have n7_ := n7.grow b8))
            | (go_at_call 79; (have mk7 := p6); (refine (AD _ _ _ _ _ _ _ n6 n4__).mono ?_); (rintro e w7 ⟨a7, l7, c7, rfl, n7, b7⟩); (have p7 := bel' p6 b7); (have KR7 := KR6.below b7 KR6.lt); (have n2_____ := n2____.grow b7); (have nd____ := nd___.grow b7); (have n4___ := n4__.grow b7); (have n5__ := n5_.grow b7); (have n6_ := n6.grow b7); (have y7 := nl_zero n7); (rw [hN] at y7))
            | (go_at_call 78; (have mk6 := p5); (refine (MU _ _ _ _ _ _ _ n2___ n5).mono ?_); (rintro e w6 ⟨a6, l6, c6, rfl, n6, b6⟩); (have p6 := bel' p5 b6); (have KR6 := KR5.below b6 KR5.lt); (have n2____ := n2___.grow b6); (have nd___ := nd__.grow b6); (have n4__ := n4_.grow b6); (have n5_ := n5.grow b6))
            | (go_at_call 70; (have mk5 := p4); (refine (TE _).mono ?_); (rintro e w5 ⟨a5, l5, c5, rfl, n5, b5⟩); (have p5 := bel' p4 b5); (have KR5 := KR4.below b5 KR4.lt); (have n2___ := n2__.grow b5); (have nd__ := nd_.grow b5); (have n4_ := n4.grow b5); (have y5 := nl_zero n5); (rw [hT] at y5))
            | (go_at_call 76; (have mk4 := p3); (refine (R2 _).mono ?_); (rintro e w4 ⟨a4, l4, c4, rfl, n4, b4⟩); (have p4 := bel' p3 b4); (have KR4 := KR3.below b4 KR3.lt); (have n2__ := n2_.grow b4); (have nd_ := nd.grow b4))
            | (go_at_call 77; (have mk3 := pd); (refine (AL _).mono ?_); (rintro e w3 ⟨rfl, hw3⟩); (subst w3); (have p3 := pd); (have KR3 := KRd))
            | (go_at_call 76; (have mk2 := p1); (refine (R1 _).mono ?_); (rintro e w2 ⟨a2, l2, c2, rfl, n2, b2⟩); (have p2 := bel' p1 b2); (have KR2 := KR1.below b2 KR1.lt); (have ad := (Below.refl w2.heap.size w2).alloc (Nat.le_refl _) (.cells #[.int .i64 1] 3)); (have pd := bel' p2 ad); (have KRd := KR2.below ad KR2.lt); (have nd : Nl (w2.alloc (.cells #[.int .i64 1] 3)) (some ⟨w2.heap.size, 0, none⟩) 1 1 1 := ⟨[1], L.rd_one (by simp) (by decide) (by decide), L.nm_one, L.val_one⟩); (have n2_ := n2.grow ad))
            | (go_at_call 75; (have mk1 := pr); (refine (DI _).mono ?_); (rintro e w1 ⟨rfl, hw1⟩); (subst w1); (have p1 := pr); (have KR1 := KR))
            | fail)
          have KE := bput (bput KR9 0 (.string u)) 1 (.string v)
          have bE := (p9.setCell (p := ⟨w.heap.size, 0, none⟩) (Nat.le_refl _) (.string u)).setCell (p := ⟨w.heap.size, 1, none⟩) (Nat.le_refl _) (.string v)
          have q0 := KE.at 0
          have q1 := KE.at 1
          simp at q0 q1
          exact bodyPost_ret (v := .tuple #[.agg #[.string u, .string v], .int .i64 er]) (by simp [results, Tryz.results20, go_sem, q0, q1]) rfl ⟨rfl, bE⟩
set_option maxRecDepth 100000 in
set_option maxHeartbeats 6400000 in
theorem RP_long (s : ByteArray) (w : World) (hs : (s.size : Int) > 65536) : Calls Tryz.prog 20 #[.string s] w fun e w' => e = .returned (.tuple #[.agg #[.string ⟨#[]⟩, .string ⟨#[]⟩], .int .i64 3]) ∧ Below w.heap.size w w' := by
  have pr : Below w.heap.size w (w.alloc (.cells #[.string ⟨#[]⟩, .string ⟨#[]⟩] 23)) := (Below.refl _ _).alloc (Nat.le_refl _) _
  go_enter Tryz.func20, Tryz.ntmps20
  go_wp2
  exact bodyPost_ret (v := .tuple #[.agg #[.string ⟨#[]⟩, .string ⟨#[]⟩], .int .i64 3]) (by simp [results, Tryz.results20, go_sem]) rfl ⟨rfl, pr⟩
set_option maxRecDepth 100000 in
set_option maxHeartbeats 6400000 in
theorem RP_empty (w : World) (DI : ∀ x, Calls Tryz.prog 75 #[.string ⟨#[]⟩] x fun e w' => e = .returned (.bool false) ∧ w' = x) : Calls Tryz.prog 20 #[.string ⟨#[]⟩] w fun e w' => e = .returned (.tuple #[.agg #[.string ⟨#[]⟩, .string ⟨#[]⟩], .int .i64 2]) ∧ Below w.heap.size w w' := by
  have pr : Below w.heap.size w (w.alloc (.cells #[.string ⟨#[]⟩, .string ⟨#[]⟩] 23)) := (Below.refl _ _).alloc (Nat.le_refl _) _
  go_enter Tryz.func20, Tryz.ntmps20
  go_wp2_with fail
  go_loop [5] (fun v => v = .int .i64 0) (fun v => 0)
  case atStart => rfl
  case round =>
    obtain rfl := hrel
    go_wp2_with (first
      | (go_at_call 75; (refine (DI _).mono ?_); (rintro e w1 ⟨rfl, hw1⟩); (subst w1))
      | fail)
    exact bodyPost_ret (v := .tuple #[.agg #[.string ⟨#[]⟩, .string ⟨#[]⟩], .int .i64 2]) (by simp [results, Tryz.results20, go_sem]) rfl ⟨rfl, pr⟩
end Go.Proofs.YtebilgnmnambnaaGreatDoor.Mo
