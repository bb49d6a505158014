import Derived.Test.YtemfndmffpalfaaDf8
namespace Go.Proofs.Ytemfndmffpalfaa.Df
open Go.RowKit Tn Go.Proofs.Ytemfndmffpalfaa.Ta
open Go.Proofs.Ytemfndmffpalfaa.Mo (Ri wrapI)

set_option maxRecDepth 100000 in
set_option maxHeartbeats 3200000 in
theorem Floats_e (f age : Int) (vr : Value) (r : Nat) (z : Int) (w : World) (hz : (z != 0) = true) (CK : ∀ x, Below w.heap.size w x → Calls Try.prog 7 #[.agg #[.int .i64 f, vr], .int .i64 age] x fun e w' => e = .returned (.int .i64 z) ∧ Below x.heap.size x w') : Calls Try.prog 4 #[.agg #[.int .i64 f, vr], .int .i64 age, .float .f64 r] w fun e w' => e = .returned (.tuple #[.slice none 0 0, .int .i64 z]) ∧ Below w.heap.size w w' := by
  have K := Blk.new w #[.int .i64 f, vr] 24
  have pr : Below w.heap.size w (w.alloc (.cells #[.int .i64 f, vr] 24)) := (Below.refl _ _).alloc (Nat.le_refl _) _
  go_enter Try.func4, Try.ntmps4
  go_wp2_with (first
    | (go_at_call 7; (refine (CK _ pr).mono ?_); (rintro e w1 ⟨rfl, b1⟩); (have p1 := bel' pr b1); (have K1 := K.below b1 K.lt); (have k01 := K1.at 0); (have k11 := K1.at 1); (simp at k01 k11))
    | fail)
  go_ret2
  exact ⟨rfl, p1⟩
set_option maxRecDepth 100000 in
set_option maxHeartbeats 3200000 in
theorem Floats_nan (f age : Int) (vr : Value) (r : Nat) (w : World) (CK : ∀ x, Below w.heap.size w x → Calls Try.prog 7 #[.agg #[.int .i64 f, vr], .int .i64 age] x fun e w' => e = .returned (.int .i64 0) ∧ Below x.heap.size x w') (NA : ∀ x, Calls Try.prog 8 #[.float .f64 r] x fun e w' => e = .returned (.bool true) ∧ w' = x) : Calls Try.prog 4 #[.agg #[.int .i64 f, vr], .int .i64 age, .float .f64 r] w fun e w' => e = .returned (.tuple #[.slice none 0 0, .int .i64 20]) ∧ Below w.heap.size w w' := by
  have K := Blk.new w #[.int .i64 f, vr] 24
  have pr : Below w.heap.size w (w.alloc (.cells #[.int .i64 f, vr] 24)) := (Below.refl _ _).alloc (Nat.le_refl _) _
  go_enter Try.func4, Try.ntmps4
  go_wp2_with (first
    | (go_at_call 8; (refine (NA _).mono ?_); (rintro e w2 ⟨rfl, h2⟩); (subst h2))
    | (go_at_call 7; (refine (CK _ pr).mono ?_); (rintro e w1 ⟨rfl, b1⟩); (have p1 := bel' pr b1); (have K1 := K.below b1 K.lt); (have k01 := K1.at 0); (have k11 := K1.at 1); (simp at k01 k11))
    | fail)
  go_ret2
  exact ⟨rfl, p1⟩
set_option maxRecDepth 100000 in
set_option maxHeartbeats 3200000 in
theorem Floats_inf (f age : Int) (vr : Value) (r : Nat) (w : World) (CK : ∀ x, Below w.heap.size w x → Calls Try.prog 7 #[.agg #[.int .i64 f, vr], .int .i64 age] x fun e w' => e = .returned (.int .i64 0) ∧ Below x.heap.size x w') (NA : ∀ x, Calls Try.prog 8 #[.float .f64 r] x fun e w' => e = .returned (.bool false) ∧ w' = x) (IF : ∀ x, Calls Try.prog 9 #[.float .f64 r, .int .i64 0] x fun e w' => e = .returned (.bool true) ∧ w' = x) : Calls Try.prog 4 #[.agg #[.int .i64 f, vr], .int .i64 age, .float .f64 r] w fun e w' => e = .returned (.tuple #[.slice none 0 0, .int .i64 20]) ∧ Below w.heap.size w w' := by
  have K := Blk.new w #[.int .i64 f, vr] 24
  have pr : Below w.heap.size w (w.alloc (.cells #[.int .i64 f, vr] 24)) := (Below.refl _ _).alloc (Nat.le_refl _) _
  go_enter Try.func4, Try.ntmps4
  go_wp2_with (first
    | (go_at_call 9; (refine (IF _).mono ?_); (rintro e w3 ⟨rfl, h3⟩); (subst h3))
    | (go_at_call 8; (refine (NA _).mono ?_); (rintro e w2 ⟨rfl, h2⟩); (subst h2))
    | (go_at_call 7; (refine (CK _ pr).mono ?_); (rintro e w1 ⟨rfl, b1⟩); (have p1 := bel' pr b1); (have K1 := K.below b1 K.lt); (have k01 := K1.at 0); (have k11 := K1.at 1); (simp at k01 k11))
    | fail)
  go_ret2
  exact ⟨rfl, p1⟩
set_option maxRecDepth 100000 in
set_option maxHeartbeats 3200000 in
theorem Floats_low (f age : Int) (vr : Value) (r : Nat) (w : World) (hr : (FloatKind.f64.format.order r 0 == some .lt) = true) (CK : ∀ x, Below w.heap.size w x → Calls Try.prog 7 #[.agg #[.int .i64 f, vr], .int .i64 age] x fun e w' => e = .returned (.int .i64 0) ∧ Below x.heap.size x w') (NA : ∀ x, Calls Try.prog 8 #[.float .f64 r] x fun e w' => e = .returned (.bool false) ∧ w' = x) (IF : ∀ x, Calls Try.prog 9 #[.float .f64 r, .int .i64 0] x fun e w' => e = .returned (.bool false) ∧ w' = x) : Calls Try.prog 4 #[.agg #[.int .i64 f, vr], .int .i64 age, .float .f64 r] w fun e w' => e = .returned (.tuple #[.slice none 0 0, .int .i64 1]) ∧ Below w.heap.size w w' := by
  have K := Blk.new w #[.int .i64 f, vr] 24
  have pr : Below w.heap.size w (w.alloc (.cells #[.int .i64 f, vr] 24)) := (Below.refl _ _).alloc (Nat.le_refl _) _
  go_enter Try.func4, Try.ntmps4
  go_wp2_with (first
    | (go_at_call 9; (refine (IF _).mono ?_); (rintro e w3 ⟨rfl, h3⟩); (subst h3))
    | (go_at_call 8; (refine (NA _).mono ?_); (rintro e w2 ⟨rfl, h2⟩); (subst h2))
    | (go_at_call 7; (refine (CK _ pr).mono ?_); (rintro e w1 ⟨rfl, b1⟩); (have p1 := bel' pr b1); (have K1 := K.below b1 K.lt); (have k01 := K1.at 0); (have k11 := K1.at 1); (simp at k01 k11))
    | fail)
  go_ret2
  exact ⟨rfl, p1⟩
end Go.Proofs.Ytemfndmffpalfaa.Df
