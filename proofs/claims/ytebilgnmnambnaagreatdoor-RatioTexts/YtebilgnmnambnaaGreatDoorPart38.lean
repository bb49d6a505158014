import Derived.Test.YtebilgnmnambnaaGreatDoorPart37
import Derived.Test.YtebilgnmnambnaaGreatDoorPart32
import Derived.Test.YtebilgnmnambnaaGreatDoorPart13

namespace Go.Proofs.YtebilgnmnambnaaGreatDoor.Mo
open Go.RowKit Fu Tn Go.Lib Dc
theorem Clone_any (s : ByteArray) (w : World) (hs : s.size ≤ 281474976710656) : Calls Tryz.prog 73 #[.string s] w fun e w' => e = .returned (.string s) ∧ Below w.heap.size w w' := by
  have C := fun W => Tryz.stringslite_Clone s W hs
  go_enter Tryz.func73, Tryz.ntmps73
  go_wp2_with (first | (go_at_call 137; (refine (C _).mono ?_); (rintro e w1 ⟨rfl, b1⟩)) | fail)
  go_ret
  exact ⟨rfl, b1⟩
set_option maxRecDepth 100000 in
set_option maxHeartbeats 3200000 in
theorem PText_err (n d : ByteArray) (c : Int) (w : World) (hc : (c != 0) = true) (CK : ∀ x, Below w.heap.size w x → Calls Tryz.prog 72 #[.agg #[.string n, .string d]] x fun e w' => e = .returned (.int .i64 c) ∧ Below x.heap.size x w') : Calls Tryz.prog 17 #[.agg #[.string n, .string d]] w fun e w' => e = .returned (.tuple #[.string ⟨#[]⟩, .int .i64 c]) ∧ Below w.heap.size w w' := by
  have KA := Blk.new w #[.string n, .string d] 23
  have pr : Below w.heap.size w (w.alloc (.cells #[.string n, .string d] 23)) := (Below.refl _ _).alloc (Nat.le_refl _) _
  go_enter Tryz.func17, Tryz.ntmps17
  go_wp2_with (first
    | (go_at_call 72; (refine (CK _ pr).mono ?_); (rintro e w1 ⟨rfl, b1⟩); (have p1 := bel' pr b1); (have KA1 := KA.below b1 KA.lt); (have h0 := KA1.at 0); (have h1 := KA1.at 1); (simp at h0 h1))
    | fail)
  go_ret2
  exact ⟨rfl, p1⟩
set_option maxRecDepth 100000 in
set_option maxHeartbeats 3200000 in
theorem PText_whole (n d : ByteArray) (w : World) (hd : (d.toList == [49]) = true) (hn : n.size ≤ 281474976710656) (CK : ∀ x, Below w.heap.size w x → Calls Tryz.prog 72 #[.agg #[.string n, .string d]] x fun e w' => e = .returned (.int .i64 0) ∧ Below x.heap.size x w') : Calls Tryz.prog 17 #[.agg #[.string n, .string d]] w fun e w' => e = .returned (.tuple #[.string n, .int .i64 0]) ∧ Below w.heap.size w w' := by
  have KA := Blk.new w #[.string n, .string d] 23
  have pr : Below w.heap.size w (w.alloc (.cells #[.string n, .string d] 23)) := (Below.refl _ _).alloc (Nat.le_refl _) _
  go_enter Tryz.func17, Tryz.ntmps17
  go_wp2_with (first
    | (go_at_call 73; (have mk := h0); (refine (Clone_any n _ hn).mono ?_); (rintro e w2 ⟨rfl, b2⟩); (have p2 := bel' p1 b2))
    | (go_at_call 72; (refine (CK _ pr).mono ?_); (rintro e w1 ⟨rfl, b1⟩); (have p1 := bel' pr b1); (have KA1 := KA.below b1 KA.lt); (have h0 := KA1.at 0); (have h1 := KA1.at 1); (simp at h0 h1))
    | fail)
  go_ret2
  exact ⟨rfl, p2⟩
set_option maxRecDepth 100000 in
set_option maxHeartbeats 3200000 in
theorem PText_two (n d U V : ByteArray) (w : World) (hd : (d.toList == [49]) = false) (hn : n.size ≤ 5000) (hz : d.size ≤ 5000) (hU : n ++ ⟨#[47]⟩ = U) (hV : U ++ d = V) (CK : ∀ x, Below w.heap.size w x → Calls Tryz.prog 72 #[.agg #[.string n, .string d]] x fun e w' => e = .returned (.int .i64 0) ∧ Below x.heap.size x w') : Calls Tryz.prog 17 #[.agg #[.string n, .string d]] w fun e w' => e = .returned (.tuple #[.string V, .int .i64 0]) ∧ Below w.heap.size w w' := by
  have KA := Blk.new w #[.string n, .string d] 23
  have pr : Below w.heap.size w (w.alloc (.cells #[.string n, .string d] 23)) := (Below.refl _ _).alloc (Nat.le_refl _) _
  have zU : U.size ≤ 5001 := by rw [← hU, ByteArray.size_append]; have : (⟨#[47]⟩ : ByteArray).size = 1 := rfl; omega
  have ra1 := fun W => run_string_add_sum (P := Tryz.prog) W n ⟨#[47]⟩ (by have : (⟨#[47]⟩ : ByteArray).size = 1 := rfl; omega)
  have ra2 := fun W => run_string_add_sum (P := Tryz.prog) W U d (by omega)
  rw [hU] at ra1
  rw [hV] at ra2
  go_enter Tryz.func17, Tryz.ntmps17
  go_wp2_with (first
    | (go_at_call 72; (refine (CK _ pr).mono ?_); (rintro e w1 ⟨rfl, b1⟩); (have p1 := bel' pr b1); (have KA1 := KA.below b1 KA.lt); (have h0 := KA1.at 0); (have h1 := KA1.at 1); (simp at h0 h1))
    | fail)
  go_ret2
  exact ⟨rfl, p1⟩
set_option maxRecDepth 100000 in
set_option maxHeartbeats 3200000 in
theorem RText_err (n d : ByteArray) (c : Int) (w : World) (hc : (c != 0) = true) (CK : ∀ x, Below w.heap.size w x → Calls Tryz.prog 51 #[.agg #[.string n, .string d]] x fun e w' => e = .returned (.int .i64 c) ∧ Below x.heap.size x w') : Calls Tryz.prog 18 #[.agg #[.string n, .string d]] w fun e w' => e = .returned (.tuple #[.string ⟨#[]⟩, .int .i64 c]) ∧ Below w.heap.size w w' := by
  have KA := Blk.new w #[.string n, .string d] 23
  have pr : Below w.heap.size w (w.alloc (.cells #[.string n, .string d] 23)) := (Below.refl _ _).alloc (Nat.le_refl _) _
  go_enter Tryz.func18, Tryz.ntmps18
  go_wp2_with (first
    | (go_at_call 51; (refine (CK _ pr).mono ?_); (rintro e w1 ⟨rfl, b1⟩); (have p1 := bel' pr b1); (have KA1 := KA.below b1 KA.lt); (have h0 := KA1.at 0); (have h1 := KA1.at 1); (simp at h0 h1))
    | fail)
  go_ret2
  exact ⟨rfl, p1⟩
set_option maxRecDepth 100000 in
set_option maxHeartbeats 3200000 in
theorem RText_whole (n d : ByteArray) (w : World) (hd : (d.toList == [49]) = true) (CK : ∀ x, Below w.heap.size w x → Calls Tryz.prog 51 #[.agg #[.string n, .string d]] x fun e w' => e = .returned (.int .i64 0) ∧ Below x.heap.size x w') : Calls Tryz.prog 18 #[.agg #[.string n, .string d]] w fun e w' => e = .returned (.tuple #[.string n, .int .i64 0]) ∧ Below w.heap.size w w' := by
  have KA := Blk.new w #[.string n, .string d] 23
  have pr : Below w.heap.size w (w.alloc (.cells #[.string n, .string d] 23)) := (Below.refl _ _).alloc (Nat.le_refl _) _
  go_enter Tryz.func18, Tryz.ntmps18
  go_wp2_with (first
    
    | (go_at_call 51; (refine (CK _ pr).mono ?_); (rintro e w1 ⟨rfl, b1⟩); (have p1 := bel' pr b1); (have KA1 := KA.below b1 KA.lt); (have h0 := KA1.at 0); (have h1 := KA1.at 1); (simp at h0 h1))
    | fail)
  go_ret2
  exact ⟨rfl, p1⟩
set_option maxRecDepth 100000 in
set_option maxHeartbeats 3200000 in
theorem RText_two (n d U V : ByteArray) (w : World) (hd : (d.toList == [49]) = false) (hn : n.size ≤ 5000) (hz : d.size ≤ 5000) (hU : n ++ ⟨#[47]⟩ = U) (hV : U ++ d = V) (CK : ∀ x, Below w.heap.size w x → Calls Tryz.prog 51 #[.agg #[.string n, .string d]] x fun e w' => e = .returned (.int .i64 0) ∧ Below x.heap.size x w') : Calls Tryz.prog 18 #[.agg #[.string n, .string d]] w fun e w' => e = .returned (.tuple #[.string V, .int .i64 0]) ∧ Below w.heap.size w w' := by
  have KA := Blk.new w #[.string n, .string d] 23
  have pr : Below w.heap.size w (w.alloc (.cells #[.string n, .string d] 23)) := (Below.refl _ _).alloc (Nat.le_refl _) _
  have zU : U.size ≤ 5001 := by rw [← hU, ByteArray.size_append]; have : (⟨#[47]⟩ : ByteArray).size = 1 := rfl; omega
  have ra1 := fun W => run_string_add_sum (P := Tryz.prog) W n ⟨#[47]⟩ (by have : (⟨#[47]⟩ : ByteArray).size = 1 := rfl; omega)
  have ra2 := fun W => run_string_add_sum (P := Tryz.prog) W U d (by omega)
  rw [hU] at ra1
  rw [hV] at ra2
  go_enter Tryz.func18, Tryz.ntmps18
  go_wp2_with (first
    | (go_at_call 51; (refine (CK _ pr).mono ?_); (rintro e w1 ⟨rfl, b1⟩); (have p1 := bel' pr b1); (have KA1 := KA.below b1 KA.lt); (have h0 := KA1.at 0); (have h1 := KA1.at 1); (simp at h0 h1))
    | fail)
  go_ret2
  exact ⟨rfl, p1⟩
theorem both_Text (n d : ByteArray) (w : World) (hn : n.size ≤ 9223372036854775807) (hd : d.size ≤ 9223372036854775807) : ∃ (t : ByteArray) (e1 : Int), (∀ x, Below w.heap.size w x → Calls Tryz.prog 17 #[.agg #[.string n, .string d]] x fun e' w' => e' = .returned (.tuple #[.string t, .int .i64 e1]) ∧ Below x.heap.size x w') ∧ (∀ x, Below w.heap.size w x → Calls Tryz.prog 18 #[.agg #[.string n, .string d]] x fun e' w' => e' = .returned (.tuple #[.string t, .int .i64 e1]) ∧ Below x.heap.size x w') := by
  have CK := fun x => Check_any n d x hn hd
  have GD := fun x => Good_any n d x hn hd
  by_cases h : goodE n d ≠ 0
  · exact ⟨⟨#[]⟩, goodE n d, fun x _ => PText_err n d _ x (bne_z h) (fun y _ => CK y), fun x _ => RText_err n d _ x (bne_z h) (fun y _ => GD y)⟩
  · have h1 : goodE n d = 0 := Classical.not_not.1 h
    have ok := ok_rT h1
    have z1 : n.size ≤ 4097 := by
      have := ok.s1
      rw [rest_ex, ex_size] at this
      unfold fr at this
      split at this <;> omega
    have z2 := ok.s2
    rw [h1] at CK GD
    cases q : (d.toList == [49]) with
    | true => exact ⟨n, 0, fun x _ => PText_whole n d x q (by omega) (fun y _ => CK y), fun x _ => RText_whole n d x q (fun y _ => GD y)⟩
    | false => exact ⟨_, 0, fun x _ => PText_two n d _ _ x q (by omega) (by omega) rfl rfl (fun y _ => CK y), fun x _ => RText_two n d _ _ x q (by omega) (by omega) rfl rfl (fun y _ => GD y)⟩
end Go.Proofs.YtebilgnmnambnaaGreatDoor.Mo
