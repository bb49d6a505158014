import Derived.Test.YtfalncbcomlelaaGreatDoorGd1
namespace Go.Proofs.YtfalncbcomlelaaGreatDoor.Mo
open Go.RowKit Dc
set_option maxRecDepth 100000 in
set_option maxHeartbeats 800000 in
theorem Good_plain_a (n d S : ByteArray) (w : World) (_ns : n.size ≤ 9223372036854775807) (_ds : d.size ≤ 9223372036854775807) (S0 : n.size = 0 ∧ n.toList.isEmpty = true ∨ ∃ h0 : 0 < n.size, (((n[0].toNat : Int)) == 45) = false ∧ n.toList.isEmpty = false) (hS : n = S) (D1 : ∀ x, Calls Tryz.prog 35 #[.string S] x fun e w' => e = .returned (.bool false) ∧ w' = x)  :
    Calls Tryz.prog 9 #[.agg #[.string n, .string d]] w fun e w' => e = .returned (.int .i64 5) ∧ Below w.heap.size w w' := by
  have K0 := Blk.new w #[.string n, .string d] 23
  have pr : Below w.heap.size w (w.alloc (.cells #[.string n, .string d] 23)) := (Below.refl _ _).alloc (Nat.le_refl _) _
  subst hS
  rcases S0 with ⟨z0, z1⟩ | ⟨h0, z1, z2⟩
  · go_enter Tryz.func9, Tryz.ntmps9
    go_wp2_with (first
      | (go_at_call 35; (with_reducible refine (D1 _).mono ?_); rintro e w1 ⟨rfl, hw⟩; subst w1)
      | fail)
    go_ret
    exact ⟨rfl, pr⟩
  · go_enter Tryz.func9, Tryz.ntmps9
    go_wp2_with (first
      | (go_at_call 35; (with_reducible refine (D1 _).mono ?_); rintro e w1 ⟨rfl, hw⟩; subst w1)
      | fail)
    go_ret
    exact ⟨rfl, pr⟩
set_option maxRecDepth 100000 in
set_option maxHeartbeats 800000 in
theorem Good_plain_b (n d S : ByteArray) (w : World) (_ns : n.size ≤ 9223372036854775807) (_ds : d.size ≤ 9223372036854775807) (h0 : 0 < n.size) (z1 : (((n[0].toNat : Int)) == 45) = false) (z2 : n.toList.isEmpty = false) (hS : n = S) (D1 : ∀ x, Calls Tryz.prog 35 #[.string S] x fun e w' => e = .returned (.bool true) ∧ w' = x) (D2 : ∀ x, Calls Tryz.prog 35 #[.string d] x fun e w' => e = .returned (.bool false) ∧ w' = x)  :
    Calls Tryz.prog 9 #[.agg #[.string n, .string d]] w fun e w' => e = .returned (.int .i64 5) ∧ Below w.heap.size w w' := by
  have K0 := Blk.new w #[.string n, .string d] 23
  have pr : Below w.heap.size w (w.alloc (.cells #[.string n, .string d] 23)) := (Below.refl _ _).alloc (Nat.le_refl _) _
  subst hS
  go_enter Tryz.func9, Tryz.ntmps9
  go_wp2_with (first
    | (go_at_call 35; (with_reducible refine (D1 _).mono ?_); rintro e w1 ⟨rfl, hw⟩; subst w1)
    | (go_at_call 35; (with_reducible refine (D2 _).mono ?_); rintro e w1 ⟨rfl, hw⟩; subst w1)
    | fail)
  go_ret
  exact ⟨rfl, pr⟩
set_option maxRecDepth 100000 in
set_option maxHeartbeats 800000 in
theorem Good_plain_c (n d S : ByteArray) (w : World) (_ns : n.size ≤ 9223372036854775807) (_ds : d.size ≤ 9223372036854775807) (h0 : 0 < n.size) (z1 : (((n[0].toNat : Int)) == 45) = false) (z2 : n.toList.isEmpty = false) (hS : n = S) (D1 : ∀ x, Calls Tryz.prog 35 #[.string S] x fun e w' => e = .returned (.bool true) ∧ w' = x) (D2 : ∀ x, Calls Tryz.prog 35 #[.string d] x fun e w' => e = .returned (.bool true) ∧ w' = x) (hz : (d.toList == [48]) = true) :
    Calls Tryz.prog 9 #[.agg #[.string n, .string d]] w fun e w' => e = .returned (.int .i64 5) ∧ Below w.heap.size w w' := by
  have K0 := Blk.new w #[.string n, .string d] 23
  have pr : Below w.heap.size w (w.alloc (.cells #[.string n, .string d] 23)) := (Below.refl _ _).alloc (Nat.le_refl _) _
  subst hS
  go_enter Tryz.func9, Tryz.ntmps9
  go_wp2_with (first
    | (go_at_call 35; (with_reducible refine (D1 _).mono ?_); rintro e w1 ⟨rfl, hw⟩; subst w1)
    | (go_at_call 35; (with_reducible refine (D2 _).mono ?_); rintro e w1 ⟨rfl, hw⟩; subst w1)
    | fail)
  go_ret
  exact ⟨rfl, pr⟩
set_option maxRecDepth 100000 in
set_option maxHeartbeats 800000 in
theorem Good_plain_e (n d S : ByteArray) (w : World) (_ns : n.size ≤ 9223372036854775807) (_ds : d.size ≤ 9223372036854775807) (h0 : 0 < n.size) (z1 : (((n[0].toNat : Int)) == 45) = false) (z2 : n.toList.isEmpty = false) (hS : n = S) (D1 : ∀ x, Calls Tryz.prog 35 #[.string S] x fun e w' => e = .returned (.bool true) ∧ w' = x) (D2 : ∀ x, Calls Tryz.prog 35 #[.string d] x fun e w' => e = .returned (.bool true) ∧ w' = x) (hz : (d.toList == [48]) = false) (hq : (S.toList == [48]) = true) (hL : n.size ≤ 1) (ho : (!(d.toList == [49])) = true) :
    Calls Tryz.prog 9 #[.agg #[.string n, .string d]] w fun e w' => e = .returned (.int .i64 5) ∧ Below w.heap.size w w' := by
  have K0 := Blk.new w #[.string n, .string d] 23
  have pr : Below w.heap.size w (w.alloc (.cells #[.string n, .string d] 23)) := (Below.refl _ _).alloc (Nat.le_refl _) _
  have hL1 : decide ((1 : Int) < (n.size : Int)) = false := by simp; omega
  subst hS
  go_enter Tryz.func9, Tryz.ntmps9
  go_wp2_with (first
    | (go_at_call 35; (with_reducible refine (D1 _).mono ?_); rintro e w1 ⟨rfl, hw⟩; subst w1)
    | (go_at_call 35; (with_reducible refine (D2 _).mono ?_); rintro e w1 ⟨rfl, hw⟩; subst w1)
    | fail)
  go_ret
  exact ⟨rfl, pr⟩
set_option maxRecDepth 100000 in
set_option maxHeartbeats 800000 in
theorem Good_plain_f (n d S : ByteArray) (w : World) (_ns : n.size ≤ 9223372036854775807) (_ds : d.size ≤ 9223372036854775807) (h0 : 0 < n.size) (z1 : (((n[0].toNat : Int)) == 45) = false) (z2 : n.toList.isEmpty = false) (hS : n = S) (D1 : ∀ x, Calls Tryz.prog 35 #[.string S] x fun e w' => e = .returned (.bool true) ∧ w' = x) (D2 : ∀ x, Calls Tryz.prog 35 #[.string d] x fun e w' => e = .returned (.bool true) ∧ w' = x) (hz : (d.toList == [48]) = false) (hq : (S.toList == [48]) = false) (hl : 4096 < S.size) :
    Calls Tryz.prog 9 #[.agg #[.string n, .string d]] w fun e w' => e = .returned (.int .i64 3) ∧ Below w.heap.size w w' := by
  have K0 := Blk.new w #[.string n, .string d] 23
  have pr : Below w.heap.size w (w.alloc (.cells #[.string n, .string d] 23)) := (Below.refl _ _).alloc (Nat.le_refl _) _
  have hl1 : (4096 : Int) < (S.size : Int) := by omega
  subst hS
  go_enter Tryz.func9, Tryz.ntmps9
  go_wp2_with (first
    | (go_at_call 35; (with_reducible refine (D1 _).mono ?_); rintro e w1 ⟨rfl, hw⟩; subst w1)
    | (go_at_call 35; (with_reducible refine (D2 _).mono ?_); rintro e w1 ⟨rfl, hw⟩; subst w1)
    | fail)
  go_ret
  exact ⟨rfl, pr⟩
set_option maxRecDepth 100000 in
set_option maxHeartbeats 800000 in
theorem Good_plain_g (n d S : ByteArray) (w : World) (_ns : n.size ≤ 9223372036854775807) (_ds : d.size ≤ 9223372036854775807) (h0 : 0 < n.size) (z1 : (((n[0].toNat : Int)) == 45) = false) (z2 : n.toList.isEmpty = false) (hS : n = S) (D1 : ∀ x, Calls Tryz.prog 35 #[.string S] x fun e w' => e = .returned (.bool true) ∧ w' = x) (D2 : ∀ x, Calls Tryz.prog 35 #[.string d] x fun e w' => e = .returned (.bool true) ∧ w' = x) (hz : (d.toList == [48]) = false) (hq : (S.toList == [48]) = false) (hl : S.size ≤ 4096) (hl2 : 4096 < d.size) :
    Calls Tryz.prog 9 #[.agg #[.string n, .string d]] w fun e w' => e = .returned (.int .i64 3) ∧ Below w.heap.size w w' := by
  have K0 := Blk.new w #[.string n, .string d] 23
  have pr : Below w.heap.size w (w.alloc (.cells #[.string n, .string d] 23)) := (Below.refl _ _).alloc (Nat.le_refl _) _
  have hl1 : (S.size : Int) ≤ 4096 := by omega
  have hl3 : (4096 : Int) < (d.size : Int) := by omega
  subst hS
  go_enter Tryz.func9, Tryz.ntmps9
  go_wp2_with (first
    | (go_at_call 35; (with_reducible refine (D1 _).mono ?_); rintro e w1 ⟨rfl, hw⟩; subst w1)
    | (go_at_call 35; (with_reducible refine (D2 _).mono ?_); rintro e w1 ⟨rfl, hw⟩; subst w1)
    | fail)
  go_ret
  exact ⟨rfl, pr⟩
set_option maxRecDepth 100000 in
set_option maxHeartbeats 800000 in
theorem Good_neg_a (n d S : ByteArray) (w : World) (_ns : n.size ≤ 9223372036854775807) (_ds : d.size ≤ 9223372036854775807) (h0 : 0 < n.size) (hn : (((n[0].toNat : Int)) == 45) = true) (he : n.toList.isEmpty = false) (hS : n.extract 1 n.size = S) (D1 : ∀ x, Calls Tryz.prog 35 #[.string S] x fun e w' => e = .returned (.bool false) ∧ w' = x)  :
    Calls Tryz.prog 9 #[.agg #[.string n, .string d]] w fun e w' => e = .returned (.int .i64 5) ∧ Below w.heap.size w w' := by
  have K0 := Blk.new w #[.string n, .string d] 23
  have pr : Below w.heap.size w (w.alloc (.cells #[.string n, .string d] 23)) := (Below.refl _ _).alloc (Nat.le_refl _) _
  have h1 : (1 : Int) ≤ (n.size : Int) := by omega
  go_enter Tryz.func9, Tryz.ntmps9
  go_wp2_with (first
    | (go_at_call 35; (with_reducible refine (D1 _).mono ?_); rintro e w1 ⟨rfl, hw⟩; subst w1)
    | fail)
  go_ret
  exact ⟨rfl, pr⟩
set_option maxRecDepth 100000 in
set_option maxHeartbeats 800000 in
theorem Good_neg_b (n d S : ByteArray) (w : World) (_ns : n.size ≤ 9223372036854775807) (_ds : d.size ≤ 9223372036854775807) (h0 : 0 < n.size) (hn : (((n[0].toNat : Int)) == 45) = true) (he : n.toList.isEmpty = false) (hS : n.extract 1 n.size = S) (D1 : ∀ x, Calls Tryz.prog 35 #[.string S] x fun e w' => e = .returned (.bool true) ∧ w' = x) (D2 : ∀ x, Calls Tryz.prog 35 #[.string d] x fun e w' => e = .returned (.bool false) ∧ w' = x)  :
    Calls Tryz.prog 9 #[.agg #[.string n, .string d]] w fun e w' => e = .returned (.int .i64 5) ∧ Below w.heap.size w w' := by
  have K0 := Blk.new w #[.string n, .string d] 23
  have pr : Below w.heap.size w (w.alloc (.cells #[.string n, .string d] 23)) := (Below.refl _ _).alloc (Nat.le_refl _) _
  have h1 : (1 : Int) ≤ (n.size : Int) := by omega
  go_enter Tryz.func9, Tryz.ntmps9
  go_wp2_with (first
    | (go_at_call 35; (with_reducible refine (D1 _).mono ?_); rintro e w1 ⟨rfl, hw⟩; subst w1)
    | (go_at_call 35; (with_reducible refine (D2 _).mono ?_); rintro e w1 ⟨rfl, hw⟩; subst w1)
    | fail)
  go_ret
  exact ⟨rfl, pr⟩
set_option maxRecDepth 100000 in
set_option maxHeartbeats 800000 in
theorem Good_neg_c (n d S : ByteArray) (w : World) (_ns : n.size ≤ 9223372036854775807) (_ds : d.size ≤ 9223372036854775807) (h0 : 0 < n.size) (hn : (((n[0].toNat : Int)) == 45) = true) (he : n.toList.isEmpty = false) (hS : n.extract 1 n.size = S) (D1 : ∀ x, Calls Tryz.prog 35 #[.string S] x fun e w' => e = .returned (.bool true) ∧ w' = x) (D2 : ∀ x, Calls Tryz.prog 35 #[.string d] x fun e w' => e = .returned (.bool true) ∧ w' = x) (hz : (d.toList == [48]) = true) :
    Calls Tryz.prog 9 #[.agg #[.string n, .string d]] w fun e w' => e = .returned (.int .i64 5) ∧ Below w.heap.size w w' := by
  have K0 := Blk.new w #[.string n, .string d] 23
  have pr : Below w.heap.size w (w.alloc (.cells #[.string n, .string d] 23)) := (Below.refl _ _).alloc (Nat.le_refl _) _
  have h1 : (1 : Int) ≤ (n.size : Int) := by omega
  go_enter Tryz.func9, Tryz.ntmps9
  go_wp2_with (first
    | (go_at_call 35; (with_reducible refine (D1 _).mono ?_); rintro e w1 ⟨rfl, hw⟩; subst w1)
    | (go_at_call 35; (with_reducible refine (D2 _).mono ?_); rintro e w1 ⟨rfl, hw⟩; subst w1)
    | fail)
  go_ret
  exact ⟨rfl, pr⟩
set_option maxRecDepth 100000 in
set_option maxHeartbeats 800000 in
theorem Good_neg_d (n d S : ByteArray) (w : World) (_ns : n.size ≤ 9223372036854775807) (_ds : d.size ≤ 9223372036854775807) (h0 : 0 < n.size) (hn : (((n[0].toNat : Int)) == 45) = true) (he : n.toList.isEmpty = false) (hS : n.extract 1 n.size = S) (D1 : ∀ x, Calls Tryz.prog 35 #[.string S] x fun e w' => e = .returned (.bool true) ∧ w' = x) (D2 : ∀ x, Calls Tryz.prog 35 #[.string d] x fun e w' => e = .returned (.bool true) ∧ w' = x) (hz : (d.toList == [48]) = false) (hq : (S.toList == [48]) = true) (hL : 1 < n.size) :
    Calls Tryz.prog 9 #[.agg #[.string n, .string d]] w fun e w' => e = .returned (.int .i64 5) ∧ Below w.heap.size w w' := by
  have K0 := Blk.new w #[.string n, .string d] 23
  have pr : Below w.heap.size w (w.alloc (.cells #[.string n, .string d] 23)) := (Below.refl _ _).alloc (Nat.le_refl _) _
  have hL1 : (1 : Int) < (n.size : Int) := by omega
  have h1 : (1 : Int) ≤ (n.size : Int) := by omega
  go_enter Tryz.func9, Tryz.ntmps9
  go_wp2_with (first
    | (go_at_call 35; (with_reducible refine (D1 _).mono ?_); rintro e w1 ⟨rfl, hw⟩; subst w1)
    | (go_at_call 35; (with_reducible refine (D2 _).mono ?_); rintro e w1 ⟨rfl, hw⟩; subst w1)
    | fail)
  go_ret
  exact ⟨rfl, pr⟩
set_option maxRecDepth 100000 in
set_option maxHeartbeats 800000 in
theorem Good_neg_f (n d S : ByteArray) (w : World) (_ns : n.size ≤ 9223372036854775807) (_ds : d.size ≤ 9223372036854775807) (h0 : 0 < n.size) (hn : (((n[0].toNat : Int)) == 45) = true) (he : n.toList.isEmpty = false) (hS : n.extract 1 n.size = S) (D1 : ∀ x, Calls Tryz.prog 35 #[.string S] x fun e w' => e = .returned (.bool true) ∧ w' = x) (D2 : ∀ x, Calls Tryz.prog 35 #[.string d] x fun e w' => e = .returned (.bool true) ∧ w' = x) (hz : (d.toList == [48]) = false) (hq : (S.toList == [48]) = false) (hl : 4096 < S.size) :
    Calls Tryz.prog 9 #[.agg #[.string n, .string d]] w fun e w' => e = .returned (.int .i64 3) ∧ Below w.heap.size w w' := by
  have K0 := Blk.new w #[.string n, .string d] 23
  have pr : Below w.heap.size w (w.alloc (.cells #[.string n, .string d] 23)) := (Below.refl _ _).alloc (Nat.le_refl _) _
  have hl1 : (4096 : Int) < (S.size : Int) := by omega
  have h1 : (1 : Int) ≤ (n.size : Int) := by omega
  go_enter Tryz.func9, Tryz.ntmps9
  go_wp2_with (first
    | (go_at_call 35; (with_reducible refine (D1 _).mono ?_); rintro e w1 ⟨rfl, hw⟩; subst w1)
    | (go_at_call 35; (with_reducible refine (D2 _).mono ?_); rintro e w1 ⟨rfl, hw⟩; subst w1)
    | fail)
  go_ret
  exact ⟨rfl, pr⟩
set_option maxRecDepth 100000 in
set_option maxHeartbeats 800000 in
theorem Good_neg_g (n d S : ByteArray) (w : World) (_ns : n.size ≤ 9223372036854775807) (_ds : d.size ≤ 9223372036854775807) (h0 : 0 < n.size) (hn : (((n[0].toNat : Int)) == 45) = true) (he : n.toList.isEmpty = false) (hS : n.extract 1 n.size = S) (D1 : ∀ x, Calls Tryz.prog 35 #[.string S] x fun e w' => e = .returned (.bool true) ∧ w' = x) (D2 : ∀ x, Calls Tryz.prog 35 #[.string d] x fun e w' => e = .returned (.bool true) ∧ w' = x) (hz : (d.toList == [48]) = false) (hq : (S.toList == [48]) = false) (hl : S.size ≤ 4096) (hl2 : 4096 < d.size) :
    Calls Tryz.prog 9 #[.agg #[.string n, .string d]] w fun e w' => e = .returned (.int .i64 3) ∧ Below w.heap.size w w' := by
  have K0 := Blk.new w #[.string n, .string d] 23
  have pr : Below w.heap.size w (w.alloc (.cells #[.string n, .string d] 23)) := (Below.refl _ _).alloc (Nat.le_refl _) _
  have hl1 : (S.size : Int) ≤ 4096 := by omega
  have hl3 : (4096 : Int) < (d.size : Int) := by omega
  have h1 : (1 : Int) ≤ (n.size : Int) := by omega
  go_enter Tryz.func9, Tryz.ntmps9
  go_wp2_with (first
    | (go_at_call 35; (with_reducible refine (D1 _).mono ?_); rintro e w1 ⟨rfl, hw⟩; subst w1)
    | (go_at_call 35; (with_reducible refine (D2 _).mono ?_); rintro e w1 ⟨rfl, hw⟩; subst w1)
    | fail)
  go_ret
  exact ⟨rfl, pr⟩
end Go.Proofs.YtfalncbcomlelaaGreatDoor.Mo
