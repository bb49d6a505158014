import Derived.Test.YtcjlpfglnbddjaaDoorMt5
namespace Go.Proofs.YtcjlpfglnbddjaaDoor.Mo
open Go.RowKit Go.Lib Dc

set_option maxHeartbeats 1600000 in
set_option maxRecDepth 100000 in
theorem begin_A (s z : ByteArray) (g : Bool) (n : Nat) (w : World) (hs : s.size ≤ 65536) (hz : z.size ≤ s.size)
    (C1 : ∀ W, Calls Tryd.prog 14 #[.string s] W fun e w' => e = .returned (.tuple #[.bool g, .string z]) ∧ Below W.heap.size W w')
    (D1 : ∀ W, Calls Tryd.prog 24 #[.string z, .int .i64 (z.size : Int)] W fun e w' => e = .returned (.int .i64 (n : Int)) ∧ w' = W)
    (H0 : ∀ W, Calls Tryd.prog 25 #[.string z, .string ⟨#[48]⟩] W fun e w' => e = .returned (.bool false) ∧ w' = W)
    (hn : n = 0) :
    Calls Tryd.prog 13 #[.string s] w fun e w' => e = .returned (.tuple #[.int .i64 ((s.size : Int) - (z.size : Int)), .bool false]) ∧ Below w.heap.size w w' := by
  have n0 : ((n : Int) == 0) = true := by rw [beq_iff_eq]; omega
  go_enter Tryd.func13, Tryd.ntmps13
  go_wp2_with (first
    | (go_at_call 14; (refine (C1 _).mono ?_); rintro e w1 ⟨rfl, b1⟩)
    | (go_at_call 24; (with_reducible refine (D1 _).mono ?_); rintro e w2 ⟨rfl, rfl⟩)
    | (go_at_call 25; (with_reducible refine (H0 _).mono ?_); rintro e w2 ⟨rfl, rfl⟩))
  go_ret2
  exact ⟨rfl, b1⟩
set_option maxHeartbeats 1600000 in
set_option maxRecDepth 100000 in
theorem begin_B0 (s z : ByteArray) (g : Bool) (n T : Nat) (w : World) (hs : s.size ≤ 65536) (hz : z.size ≤ s.size)
    (C1 : ∀ W, Calls Tryd.prog 14 #[.string s] W fun e w' => e = .returned (.tuple #[.bool g, .string z]) ∧ Below W.heap.size W w')
    (D1 : ∀ W, Calls Tryd.prog 24 #[.string z, .int .i64 (z.size : Int)] W fun e w' => e = .returned (.int .i64 (n : Int)) ∧ w' = W)
    (H0 : ∀ W, Calls Tryd.prog 25 #[.string z, .string ⟨#[48]⟩] W fun e w' => e = .returned (.bool false) ∧ w' = W)
    (hn : 0 < n) (hat : (s.size : Int) - (z.size : Int) + (n : Int) = (T : Int)) (hT : T ≤ s.size)
    (H1 : ∀ W, Calls Tryd.prog 25 #[.string (s.extract T s.size), .string ⟨#[46]⟩] W fun e w' => e = .returned (.bool false) ∧ w' = W) :
    Calls Tryd.prog 13 #[.string s] w fun e w' => e = .returned (.tuple #[.int .i64 (T : Int), .bool false]) ∧ Below w.heap.size w w' := by
  have n0 : ((n : Int) == 0) = false := by rw [beq_eq_false_iff_ne]; omega
  go_enter Tryd.func13, Tryd.ntmps13
  go_wp2_with (first
    | (go_at_call 14; (refine (C1 _).mono ?_); rintro e w1 ⟨rfl, b1⟩)
    | (go_at_call 24; (with_reducible refine (D1 _).mono ?_); rintro e w2 ⟨rfl, rfl⟩)
    | (go_at_call 25; (with_reducible refine (H0 _).mono ?_); rintro e w2 ⟨rfl, rfl⟩)
    | (go_at_call 25; (with_reducible refine (H1 _).mono ?_); rintro e w2 ⟨rfl, rfl⟩))
  go_ret2
  exact ⟨rfl, b1⟩
set_option maxHeartbeats 1600000 in
set_option maxRecDepth 100000 in
theorem begin_Z0 (s z : ByteArray) (g : Bool) (n T k E : Nat) (w : World) (hs : s.size ≤ 65536) (hz : z.size ≤ s.size)
    (C1 : ∀ W, Calls Tryd.prog 14 #[.string s] W fun e w' => e = .returned (.tuple #[.bool g, .string z]) ∧ Below W.heap.size W w')
    (D1 : ∀ W, Calls Tryd.prog 24 #[.string z, .int .i64 (z.size : Int)] W fun e w' => e = .returned (.int .i64 (n : Int)) ∧ w' = W)
    (H0 : ∀ W, Calls Tryd.prog 25 #[.string z, .string ⟨#[48]⟩] W fun e w' => e = .returned (.bool false) ∧ w' = W)
    (hn : 0 < n) (hat : (s.size : Int) - (z.size : Int) + (n : Int) = (T : Int)) (hT : T ≤ s.size)
    (H1 : ∀ W, Calls Tryd.prog 25 #[.string (s.extract T s.size), .string ⟨#[46]⟩] W fun e w' => e = .returned (.bool true) ∧ w' = W)
    (D2 : ∀ W, Calls Tryd.prog 24 #[.string (s.extract (T + 1) s.size), .int .i64 2] W fun e w' => e = .returned (.int .i64 (k : Int)) ∧ w' = W)
    (hT1 : T + 1 ≤ s.size) (hE : T + 1 + k = E) (hEs : E ≤ s.size) (hZ : ((s.extract 0 E).toList == [45, 48, 46, 48, 48]) = true) :
    Calls Tryd.prog 13 #[.string s] w fun e w' => e = .returned (.tuple #[.int .i64 ((E : Int) - 1), .bool false]) ∧ Below w.heap.size w w' := by
  have n0 : ((n : Int) == 0) = false := by rw [beq_eq_false_iff_ne]; omega
  have t1 : ((T : Int) + 1).toNat = T + 1 := by omega
  have e1 : (T : Int) + 1 + (k : Int) = (E : Int) := by omega
  go_enter Tryd.func13, Tryd.ntmps13
  go_wp2_with (first
    | (go_at_call 14; (refine (C1 _).mono ?_); rintro e w1 ⟨rfl, b1⟩)
    | (go_at_call 24; (with_reducible refine (D1 _).mono ?_); rintro e w2 ⟨rfl, rfl⟩)
    | (go_at_call 25; (with_reducible refine (H0 _).mono ?_); rintro e w2 ⟨rfl, rfl⟩)
    | (go_at_call 25; (with_reducible refine (H1 _).mono ?_); rintro e w2 ⟨rfl, rfl⟩)
    | (go_at_call 24; (with_reducible refine (D2 _).mono ?_); rintro e w2 ⟨rfl, rfl⟩))
  go_ret2
  exact ⟨rfl, b1⟩
set_option maxHeartbeats 1600000 in
set_option maxRecDepth 100000 in
theorem begin_N0 (s z : ByteArray) (g : Bool) (n T k E : Nat) (w : World) (hs : s.size ≤ 65536) (hz : z.size ≤ s.size)
    (C1 : ∀ W, Calls Tryd.prog 14 #[.string s] W fun e w' => e = .returned (.tuple #[.bool g, .string z]) ∧ Below W.heap.size W w')
    (D1 : ∀ W, Calls Tryd.prog 24 #[.string z, .int .i64 (z.size : Int)] W fun e w' => e = .returned (.int .i64 (n : Int)) ∧ w' = W)
    (H0 : ∀ W, Calls Tryd.prog 25 #[.string z, .string ⟨#[48]⟩] W fun e w' => e = .returned (.bool false) ∧ w' = W)
    (hn : 0 < n) (hat : (s.size : Int) - (z.size : Int) + (n : Int) = (T : Int)) (hT : T ≤ s.size)
    (H1 : ∀ W, Calls Tryd.prog 25 #[.string (s.extract T s.size), .string ⟨#[46]⟩] W fun e w' => e = .returned (.bool true) ∧ w' = W)
    (D2 : ∀ W, Calls Tryd.prog 24 #[.string (s.extract (T + 1) s.size), .int .i64 2] W fun e w' => e = .returned (.int .i64 (k : Int)) ∧ w' = W)
    (hT1 : T + 1 ≤ s.size) (hE : T + 1 + k = E) (hEs : E ≤ s.size) (hZ : ((s.extract 0 E).toList == [45, 48, 46, 48, 48]) = false) (hk : k < 2) :
    Calls Tryd.prog 13 #[.string s] w fun e w' => e = .returned (.tuple #[.int .i64 (E : Int), .bool false]) ∧ Below w.heap.size w w' := by
  have n0 : ((n : Int) == 0) = false := by rw [beq_eq_false_iff_ne]; omega
  have t1 : ((T : Int) + 1).toNat = T + 1 := by omega
  have e1 : (T : Int) + 1 + (k : Int) = (E : Int) := by omega
  have nk : ((E : Int) == (T : Int) + 1 + 2) = false := by rw [beq_eq_false_iff_ne]; omega
  go_enter Tryd.func13, Tryd.ntmps13
  go_wp2_with (first
    | (go_at_call 14; (refine (C1 _).mono ?_); rintro e w1 ⟨rfl, b1⟩)
    | (go_at_call 24; (with_reducible refine (D1 _).mono ?_); rintro e w2 ⟨rfl, rfl⟩)
    | (go_at_call 25; (with_reducible refine (H0 _).mono ?_); rintro e w2 ⟨rfl, rfl⟩)
    | (go_at_call 25; (with_reducible refine (H1 _).mono ?_); rintro e w2 ⟨rfl, rfl⟩)
    | (go_at_call 24; (with_reducible refine (D2 _).mono ?_); rintro e w2 ⟨rfl, rfl⟩))
  go_ret2
  exact ⟨rfl, b1⟩
set_option maxHeartbeats 1600000 in
set_option maxRecDepth 100000 in
theorem begin_Y0 (s z : ByteArray) (g : Bool) (n T k E : Nat) (w : World) (hs : s.size ≤ 65536) (hz : z.size ≤ s.size)
    (C1 : ∀ W, Calls Tryd.prog 14 #[.string s] W fun e w' => e = .returned (.tuple #[.bool g, .string z]) ∧ Below W.heap.size W w')
    (D1 : ∀ W, Calls Tryd.prog 24 #[.string z, .int .i64 (z.size : Int)] W fun e w' => e = .returned (.int .i64 (n : Int)) ∧ w' = W)
    (H0 : ∀ W, Calls Tryd.prog 25 #[.string z, .string ⟨#[48]⟩] W fun e w' => e = .returned (.bool false) ∧ w' = W)
    (hn : 0 < n) (hat : (s.size : Int) - (z.size : Int) + (n : Int) = (T : Int)) (hT : T ≤ s.size)
    (H1 : ∀ W, Calls Tryd.prog 25 #[.string (s.extract T s.size), .string ⟨#[46]⟩] W fun e w' => e = .returned (.bool true) ∧ w' = W)
    (D2 : ∀ W, Calls Tryd.prog 24 #[.string (s.extract (T + 1) s.size), .int .i64 2] W fun e w' => e = .returned (.int .i64 (k : Int)) ∧ w' = W)
    (hT1 : T + 1 ≤ s.size) (hE : T + 1 + k = E) (hEs : E ≤ s.size) (hZ : ((s.extract 0 E).toList == [45, 48, 46, 48, 48]) = false) (hk : k = 2) :
    Calls Tryd.prog 13 #[.string s] w fun e w' => e = .returned (.tuple #[.int .i64 (E : Int), .bool ((E : Int) == (s.size : Int))]) ∧ Below w.heap.size w w' := by
  have n0 : ((n : Int) == 0) = false := by rw [beq_eq_false_iff_ne]; omega
  have t1 : ((T : Int) + 1).toNat = T + 1 := by omega
  have e1 : (T : Int) + 1 + (k : Int) = (E : Int) := by omega
  have nk : ((E : Int) == (T : Int) + 1 + 2) = true := by rw [beq_iff_eq]; omega
  clear hk hE
  go_enter Tryd.func13, Tryd.ntmps13
  go_wp2_with (first
    | (go_at_call 14; (refine (C1 _).mono ?_); rintro e w1 ⟨rfl, b1⟩)
    | (go_at_call 24; (with_reducible refine (D1 _).mono ?_); rintro e w2 ⟨rfl, rfl⟩)
    | (go_at_call 25; (with_reducible refine (H0 _).mono ?_); rintro e w2 ⟨rfl, rfl⟩)
    | (go_at_call 25; (with_reducible refine (H1 _).mono ?_); rintro e w2 ⟨rfl, rfl⟩)
    | (go_at_call 24; (with_reducible refine (D2 _).mono ?_); rintro e w2 ⟨rfl, rfl⟩))
  go_ret2
  exact ⟨rfl, b1⟩
set_option maxHeartbeats 1600000 in
set_option maxRecDepth 100000 in
theorem begin_B1 (s z : ByteArray) (g : Bool) (n T : Nat) (w : World) (hs : s.size ≤ 65536) (hz : z.size ≤ s.size)
    (C1 : ∀ W, Calls Tryd.prog 14 #[.string s] W fun e w' => e = .returned (.tuple #[.bool g, .string z]) ∧ Below W.heap.size W w')
    (D1 : ∀ W, Calls Tryd.prog 24 #[.string z, .int .i64 (z.size : Int)] W fun e w' => e = .returned (.int .i64 (n : Int)) ∧ w' = W)
    (H0 : ∀ W, Calls Tryd.prog 25 #[.string z, .string ⟨#[48]⟩] W fun e w' => e = .returned (.bool true) ∧ w' = W)
    (hat : (s.size : Int) - (z.size : Int) + 1 = (T : Int)) (hT : T ≤ s.size)
    (H1 : ∀ W, Calls Tryd.prog 25 #[.string (s.extract T s.size), .string ⟨#[46]⟩] W fun e w' => e = .returned (.bool false) ∧ w' = W) :
    Calls Tryd.prog 13 #[.string s] w fun e w' => e = .returned (.tuple #[.int .i64 (T : Int), .bool false]) ∧ Below w.heap.size w w' := by
  go_enter Tryd.func13, Tryd.ntmps13
  go_wp2_with (first
    | (go_at_call 14; (refine (C1 _).mono ?_); rintro e w1 ⟨rfl, b1⟩)
    | (go_at_call 24; (with_reducible refine (D1 _).mono ?_); rintro e w2 ⟨rfl, rfl⟩)
    | (go_at_call 25; (with_reducible refine (H0 _).mono ?_); rintro e w2 ⟨rfl, rfl⟩)
    | (go_at_call 25; (with_reducible refine (H1 _).mono ?_); rintro e w2 ⟨rfl, rfl⟩))
  go_ret2
  exact ⟨rfl, b1⟩
set_option maxHeartbeats 1600000 in
set_option maxRecDepth 100000 in
theorem begin_Z1 (s z : ByteArray) (g : Bool) (n T k E : Nat) (w : World) (hs : s.size ≤ 65536) (hz : z.size ≤ s.size)
    (C1 : ∀ W, Calls Tryd.prog 14 #[.string s] W fun e w' => e = .returned (.tuple #[.bool g, .string z]) ∧ Below W.heap.size W w')
    (D1 : ∀ W, Calls Tryd.prog 24 #[.string z, .int .i64 (z.size : Int)] W fun e w' => e = .returned (.int .i64 (n : Int)) ∧ w' = W)
    (H0 : ∀ W, Calls Tryd.prog 25 #[.string z, .string ⟨#[48]⟩] W fun e w' => e = .returned (.bool true) ∧ w' = W)
    (hat : (s.size : Int) - (z.size : Int) + 1 = (T : Int)) (hT : T ≤ s.size)
    (H1 : ∀ W, Calls Tryd.prog 25 #[.string (s.extract T s.size), .string ⟨#[46]⟩] W fun e w' => e = .returned (.bool true) ∧ w' = W)
    (D2 : ∀ W, Calls Tryd.prog 24 #[.string (s.extract (T + 1) s.size), .int .i64 2] W fun e w' => e = .returned (.int .i64 (k : Int)) ∧ w' = W)
    (hT1 : T + 1 ≤ s.size) (hE : T + 1 + k = E) (hEs : E ≤ s.size) (hZ : ((s.extract 0 E).toList == [45, 48, 46, 48, 48]) = true) :
    Calls Tryd.prog 13 #[.string s] w fun e w' => e = .returned (.tuple #[.int .i64 ((E : Int) - 1), .bool false]) ∧ Below w.heap.size w w' := by
  have t1 : ((T : Int) + 1).toNat = T + 1 := by omega
  have e1 : (T : Int) + 1 + (k : Int) = (E : Int) := by omega
  go_enter Tryd.func13, Tryd.ntmps13
  go_wp2_with (first
    | (go_at_call 14; (refine (C1 _).mono ?_); rintro e w1 ⟨rfl, b1⟩)
    | (go_at_call 24; (with_reducible refine (D1 _).mono ?_); rintro e w2 ⟨rfl, rfl⟩)
    | (go_at_call 25; (with_reducible refine (H0 _).mono ?_); rintro e w2 ⟨rfl, rfl⟩)
    | (go_at_call 25; (with_reducible refine (H1 _).mono ?_); rintro e w2 ⟨rfl, rfl⟩)
    | (go_at_call 24; (with_reducible refine (D2 _).mono ?_); rintro e w2 ⟨rfl, rfl⟩))
  go_ret2
  exact ⟨rfl, b1⟩
set_option maxHeartbeats 1600000 in
set_option maxRecDepth 100000 in
theorem begin_N1 (s z : ByteArray) (g : Bool) (n T k E : Nat) (w : World) (hs : s.size ≤ 65536) (hz : z.size ≤ s.size)
    (C1 : ∀ W, Calls Tryd.prog 14 #[.string s] W fun e w' => e = .returned (.tuple #[.bool g, .string z]) ∧ Below W.heap.size W w')
    (D1 : ∀ W, Calls Tryd.prog 24 #[.string z, .int .i64 (z.size : Int)] W fun e w' => e = .returned (.int .i64 (n : Int)) ∧ w' = W)
    (H0 : ∀ W, Calls Tryd.prog 25 #[.string z, .string ⟨#[48]⟩] W fun e w' => e = .returned (.bool true) ∧ w' = W)
    (hat : (s.size : Int) - (z.size : Int) + 1 = (T : Int)) (hT : T ≤ s.size)
    (H1 : ∀ W, Calls Tryd.prog 25 #[.string (s.extract T s.size), .string ⟨#[46]⟩] W fun e w' => e = .returned (.bool true) ∧ w' = W)
    (D2 : ∀ W, Calls Tryd.prog 24 #[.string (s.extract (T + 1) s.size), .int .i64 2] W fun e w' => e = .returned (.int .i64 (k : Int)) ∧ w' = W)
    (hT1 : T + 1 ≤ s.size) (hE : T + 1 + k = E) (hEs : E ≤ s.size) (hZ : ((s.extract 0 E).toList == [45, 48, 46, 48, 48]) = false) (hk : k < 2) :
    Calls Tryd.prog 13 #[.string s] w fun e w' => e = .returned (.tuple #[.int .i64 (E : Int), .bool false]) ∧ Below w.heap.size w w' := by
  have t1 : ((T : Int) + 1).toNat = T + 1 := by omega
  have e1 : (T : Int) + 1 + (k : Int) = (E : Int) := by omega
  have nk : ((E : Int) == (T : Int) + 1 + 2) = false := by rw [beq_eq_false_iff_ne]; omega
  go_enter Tryd.func13, Tryd.ntmps13
  go_wp2_with (first
    | (go_at_call 14; (refine (C1 _).mono ?_); rintro e w1 ⟨rfl, b1⟩)
    | (go_at_call 24; (with_reducible refine (D1 _).mono ?_); rintro e w2 ⟨rfl, rfl⟩)
    | (go_at_call 25; (with_reducible refine (H0 _).mono ?_); rintro e w2 ⟨rfl, rfl⟩)
    | (go_at_call 25; (with_reducible refine (H1 _).mono ?_); rintro e w2 ⟨rfl, rfl⟩)
    | (go_at_call 24; (with_reducible refine (D2 _).mono ?_); rintro e w2 ⟨rfl, rfl⟩))
  go_ret2
  exact ⟨rfl, b1⟩
set_option maxHeartbeats 1600000 in
set_option maxRecDepth 100000 in
theorem begin_Y1 (s z : ByteArray) (g : Bool) (n T k E : Nat) (w : World) (hs : s.size ≤ 65536) (hz : z.size ≤ s.size)
    (C1 : ∀ W, Calls Tryd.prog 14 #[.string s] W fun e w' => e = .returned (.tuple #[.bool g, .string z]) ∧ Below W.heap.size W w')
    (D1 : ∀ W, Calls Tryd.prog 24 #[.string z, .int .i64 (z.size : Int)] W fun e w' => e = .returned (.int .i64 (n : Int)) ∧ w' = W)
    (H0 : ∀ W, Calls Tryd.prog 25 #[.string z, .string ⟨#[48]⟩] W fun e w' => e = .returned (.bool true) ∧ w' = W)
    (hat : (s.size : Int) - (z.size : Int) + 1 = (T : Int)) (hT : T ≤ s.size)
    (H1 : ∀ W, Calls Tryd.prog 25 #[.string (s.extract T s.size), .string ⟨#[46]⟩] W fun e w' => e = .returned (.bool true) ∧ w' = W)
    (D2 : ∀ W, Calls Tryd.prog 24 #[.string (s.extract (T + 1) s.size), .int .i64 2] W fun e w' => e = .returned (.int .i64 (k : Int)) ∧ w' = W)
    (hT1 : T + 1 ≤ s.size) (hE : T + 1 + k = E) (hEs : E ≤ s.size) (hZ : ((s.extract 0 E).toList == [45, 48, 46, 48, 48]) = false) (hk : k = 2) :
    Calls Tryd.prog 13 #[.string s] w fun e w' => e = .returned (.tuple #[.int .i64 (E : Int), .bool ((E : Int) == (s.size : Int))]) ∧ Below w.heap.size w w' := by
  have t1 : ((T : Int) + 1).toNat = T + 1 := by omega
  have e1 : (T : Int) + 1 + (k : Int) = (E : Int) := by omega
  have nk : ((E : Int) == (T : Int) + 1 + 2) = true := by rw [beq_iff_eq]; omega
  clear hk hE
  go_enter Tryd.func13, Tryd.ntmps13
  go_wp2_with (first
    | (go_at_call 14; (refine (C1 _).mono ?_); rintro e w1 ⟨rfl, b1⟩)
    | (go_at_call 24; (with_reducible refine (D1 _).mono ?_); rintro e w2 ⟨rfl, rfl⟩)
    | (go_at_call 25; (with_reducible refine (H0 _).mono ?_); rintro e w2 ⟨rfl, rfl⟩)
    | (go_at_call 25; (with_reducible refine (H1 _).mono ?_); rintro e w2 ⟨rfl, rfl⟩)
    | (go_at_call 24; (with_reducible refine (D2 _).mono ?_); rintro e w2 ⟨rfl, rfl⟩))
  go_ret2
  exact ⟨rfl, b1⟩
end Go.Proofs.YtcjlpfglnbddjaaDoor.Mo
