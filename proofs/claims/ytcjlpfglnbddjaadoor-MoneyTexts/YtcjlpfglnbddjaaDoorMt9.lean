import Derived.Test.YtcjlpfglnbddjaaDoorMt8
namespace Go.Proofs.YtcjlpfglnbddjaaDoor.Mo
open Go.RowKit Go.Lib Dc

/-- A result of two ints in its own block. -/
structure Fb (W : World) (n : Nat) : Prop where
  c0 : W.cell? ⟨n, 0, none⟩ = some (.int .i64 0)
  c1 : W.cell? ⟨n, 1, none⟩ = some (.int .i64 0)
  f0 : W.frozen? ⟨n, 0, none⟩ = false
  f1 : W.frozen? ⟨n, 1, none⟩ = false
theorem Fb.new (w : World) (t : TypeId) : Fb (w.alloc (.cells #[.int .i64 0, .int .i64 0] t)) w.heap.size := ⟨by simp, by simp, by simp, by simp⟩
theorem Fb.grow {w w' : World} {n : Nat} (h : Fb w n) (k : Below w.heap.size w w') : Fb w' n := by
  have l := L.lt_of_cell h.c0
  exact ⟨(k.cell (p := ⟨n, 0, none⟩) l).trans h.c0, (k.cell (p := ⟨n, 1, none⟩) l).trans h.c1, (k.frozen (p := ⟨n, 0, none⟩) l).trans h.f0, (k.frozen (p := ⟨n, 1, none⟩) l).trans h.f1⟩
theorem Fb.at0 {W : World} {n : Nat} (h : Fb W n) (a b : Value) : ((W.setCell ⟨n, 0, none⟩ a).setCell ⟨n, 1, none⟩ b).cell? ⟨n, 0, none⟩ = some a := by
  rw [World.cell?_setCell_other _ _ _ _ (by simp)]
  exact World.cell?_setCell_same _ _ _ h.c0
theorem Fb.at1 {W : World} {n : Nat} (h : Fb W n) (a b : Value) : ((W.setCell ⟨n, 0, none⟩ a).setCell ⟨n, 1, none⟩ b).cell? ⟨n, 1, none⟩ = some b := by
  have : (W.setCell ⟨n, 0, none⟩ a).cell? ⟨n, 1, none⟩ = some (.int .i64 0) := by
    rw [World.cell?_setCell_other _ _ _ _ (by simp)]
    exact h.c1
  exact World.cell?_setCell_same _ _ _ this
theorem bset2 {w W : World} {n : Nat} {a b : Value} (h : Below w.heap.size w W) (hn : w.heap.size ≤ n) : Below w.heap.size w ((W.setCell ⟨n, 0, none⟩ a).setCell ⟨n, 1, none⟩ b) :=
  (h.setCell (p := ⟨n, 0, none⟩) hn a).setCell (p := ⟨n, 1, none⟩) hn b

set_option maxHeartbeats 1600000 in
set_option maxRecDepth 100000 in
theorem read_long (s : ByteArray) (w : World) (hs : 65536 < s.size) :
    Calls Tryd.prog 6 #[.string s] w fun e w' => e = .returned (.tuple #[.int .i64 0, .agg #[.int .i64 0, .int .i64 3]]) ∧ Below w.heap.size w w' := by
  have h1 : (65536 : Int) < (s.size : Int) := by omega
  go_enter Tryd.func6, Tryd.ntmps6
  go_wp2
  exact bodyPost_ret (v := .tuple #[.int .i64 0, .agg #[.int .i64 0, .int .i64 3]]) (by simp [results, Tryd.results6, go_sem]) rfl ⟨rfl, (Below.refl _ _).alloc (Nat.le_refl _) _⟩
set_option maxHeartbeats 1600000 in
set_option maxRecDepth 100000 in
theorem read_form (s : ByteArray) (n : Nat) (w : World) (hs : ¬ 65536 < s.size)
    (B : ∀ W, Calls Tryd.prog 13 #[.string s] W fun e w' => e = .returned (.tuple #[.int .i64 (n : Int), .bool false]) ∧ Below W.heap.size W w') :
    Calls Tryd.prog 6 #[.string s] w fun e w' => e = .returned (.tuple #[.int .i64 0, .agg #[.int .i64 (n : Int), .int .i64 2]]) ∧ Below w.heap.size w w' := by
  have h1 : ¬ (65536 : Int) < (s.size : Int) := by omega
  have F := Fb.new w 28
  have pr : Below w.heap.size w (w.alloc (.cells #[.int .i64 0, .int .i64 0] 28)) := (Below.refl _ _).alloc (Nat.le_refl _) _
  go_enter Tryd.func6, Tryd.ntmps6
  go_wp2_with (go_at_call 13; (refine (B _).mono ?_); rintro e w1 ⟨rfl, b1⟩; replace F := F.grow b1; replace pr := pr.trans (b1.mono pr.size); obtain ⟨k0, k1, f0, f1⟩ := F; have F : Hid (Fb w1 w.heap.size) := ⟨k0, k1, f0, f1⟩)
  have F0 := F.out.at0 (.int .i64 (n : Int)) (.int .i64 2)
  have F1 := F.out.at1 (.int .i64 (n : Int)) (.int .i64 2)
  exact bodyPost_ret (v := .tuple #[.int .i64 0, .agg #[.int .i64 (n : Int), .int .i64 2]]) (by simp [results, Tryd.results6, go_sem, F0, F1]) rfl ⟨rfl, bset2 pr (Nat.le_refl _)⟩
set_option maxHeartbeats 1600000 in
set_option maxRecDepth 100000 in
theorem read_pos (s r d : ByteArray) (n : Nat) (v : Int) (w : World) (hs : ¬ 65536 < s.size) (hA : isA v = true)
    (B : ∀ W, Calls Tryd.prog 13 #[.string s] W fun e w' => e = .returned (.tuple #[.int .i64 (n : Int), .bool true]) ∧ Below W.heap.size W w')
    (R : ∀ W, Gv W → Calls Tryd.prog 15 #[.string s, .string ⟨#[46]⟩, .string ⟨#[]⟩, .int .i64 1] W fun e w' => e = .returned (.string r) ∧ Below W.heap.size W w')
    (C : ∀ W, Calls Tryd.prog 14 #[.string r] W fun e w' => e = .returned (.tuple #[.bool false, .string d]) ∧ Below W.heap.size W w')
    (A : ∀ W, Gv W → Calls Tryd.prog 16 #[.string d] W fun e w' => (e = .returned (.tuple #[.int .i64 v, .nilIface])) ∧ Below W.heap.size W w') (G : Gv w) :
    Calls Tryd.prog 6 #[.string s] w fun e w' => e = .returned (.tuple #[.int .i64 (v), .agg #[.int .i64 0, .int .i64 0]]) ∧ Below w.heap.size w w' := by
  have h1 : ¬ (65536 : Int) < (s.size : Int) := by omega
  have F := Fb.new w 28
  have pr : Below w.heap.size w (w.alloc (.cells #[.int .i64 0, .int .i64 0] 28)) := (Below.refl _ _).alloc (Nat.le_refl _) _
  replace G := G.grow pr
  have ba := isA_iff.1 hA
  go_enter Tryd.func6, Tryd.ntmps6
  go_wp2_with (first
    | (go_at_call 13; (refine (B _).mono ?_); rintro e w1 ⟨rfl, b1⟩; replace F := F.grow b1; replace pr := pr.trans (b1.mono pr.size); replace G := G.grow b1)
    | (go_at_call 15; (refine (R _ G).mono ?_); rintro e w2 ⟨rfl, b2⟩; replace F := F.grow b2; replace pr := pr.trans (b2.mono pr.size); replace G := G.grow b2)
    | (go_at_call 14; (refine (C _).mono ?_); rintro e w3 ⟨rfl, b3⟩; replace F := F.grow b3; replace pr := pr.trans (b3.mono pr.size); replace G := G.grow b3)
    | (go_at_call 16; (refine (A _ G).mono ?_); rintro e w4 ⟨rfl, b4⟩; replace F := F.grow b4; replace pr := pr.trans (b4.mono pr.size); obtain ⟨k0, k1, f0, f1⟩ := F; have F : Hid (Fb w4 w.heap.size) := ⟨k0, k1, f0, f1⟩)
    | (go_at_call 8; (refine (isAmount_any v _).mono ?_); rintro e w5 ⟨rfl, rfl⟩))
  have F0 := F.out.at0 (.int .i64 0) (.int .i64 0)
  have F1 := F.out.at1 (.int .i64 0) (.int .i64 0)
  exact bodyPost_ret (v := .tuple #[.int .i64 (v), .agg #[.int .i64 0, .int .i64 0]]) (by simp [results, Tryd.results6, go_sem, F0, F1]) rfl ⟨rfl, bset2 pr (Nat.le_refl _)⟩
set_option maxHeartbeats 1600000 in
set_option maxRecDepth 100000 in
theorem read_neg (s r d : ByteArray) (n : Nat) (v : Int) (w : World) (hs : ¬ 65536 < s.size) (hA : isA v = true)
    (B : ∀ W, Calls Tryd.prog 13 #[.string s] W fun e w' => e = .returned (.tuple #[.int .i64 (n : Int), .bool true]) ∧ Below W.heap.size W w')
    (R : ∀ W, Gv W → Calls Tryd.prog 15 #[.string s, .string ⟨#[46]⟩, .string ⟨#[]⟩, .int .i64 1] W fun e w' => e = .returned (.string r) ∧ Below W.heap.size W w')
    (C : ∀ W, Calls Tryd.prog 14 #[.string r] W fun e w' => e = .returned (.tuple #[.bool true, .string d]) ∧ Below W.heap.size W w')
    (A : ∀ W, Gv W → Calls Tryd.prog 16 #[.string d] W fun e w' => (e = .returned (.tuple #[.int .i64 v, .nilIface])) ∧ Below W.heap.size W w') (G : Gv w) :
    Calls Tryd.prog 6 #[.string s] w fun e w' => e = .returned (.tuple #[.int .i64 (-v), .agg #[.int .i64 0, .int .i64 0]]) ∧ Below w.heap.size w w' := by
  have h1 : ¬ (65536 : Int) < (s.size : Int) := by omega
  have F := Fb.new w 28
  have pr : Below w.heap.size w (w.alloc (.cells #[.int .i64 0, .int .i64 0] 28)) := (Below.refl _ _).alloc (Nat.le_refl _) _
  replace G := G.grow pr
  have ba := isA_iff.1 hA
  go_enter Tryd.func6, Tryd.ntmps6
  go_wp2_with (first
    | (go_at_call 13; (refine (B _).mono ?_); rintro e w1 ⟨rfl, b1⟩; replace F := F.grow b1; replace pr := pr.trans (b1.mono pr.size); replace G := G.grow b1)
    | (go_at_call 15; (refine (R _ G).mono ?_); rintro e w2 ⟨rfl, b2⟩; replace F := F.grow b2; replace pr := pr.trans (b2.mono pr.size); replace G := G.grow b2)
    | (go_at_call 14; (refine (C _).mono ?_); rintro e w3 ⟨rfl, b3⟩; replace F := F.grow b3; replace pr := pr.trans (b3.mono pr.size); replace G := G.grow b3)
    | (go_at_call 16; (refine (A _ G).mono ?_); rintro e w4 ⟨rfl, b4⟩; replace F := F.grow b4; replace pr := pr.trans (b4.mono pr.size); obtain ⟨k0, k1, f0, f1⟩ := F; have F : Hid (Fb w4 w.heap.size) := ⟨k0, k1, f0, f1⟩)
    | (go_at_call 8; (refine (isAmount_any v _).mono ?_); rintro e w5 ⟨rfl, rfl⟩))
  have F0 := F.out.at0 (.int .i64 0) (.int .i64 0)
  have F1 := F.out.at1 (.int .i64 0) (.int .i64 0)
  exact bodyPost_ret (v := .tuple #[.int .i64 (-v), .agg #[.int .i64 0, .int .i64 0]]) (by simp [results, Tryd.results6, go_sem, F0, F1]) rfl ⟨rfl, bset2 pr (Nat.le_refl _)⟩
set_option maxHeartbeats 1600000 in
set_option maxRecDepth 100000 in
theorem read_big (s r d : ByteArray) (n : Nat) (g : Bool) (v : Int) (w : World) (hs : ¬ 65536 < s.size) (hA : isA v = false)
    (B : ∀ W, Calls Tryd.prog 13 #[.string s] W fun e w' => e = .returned (.tuple #[.int .i64 (n : Int), .bool true]) ∧ Below W.heap.size W w')
    (R : ∀ W, Gv W → Calls Tryd.prog 15 #[.string s, .string ⟨#[46]⟩, .string ⟨#[]⟩, .int .i64 1] W fun e w' => e = .returned (.string r) ∧ Below W.heap.size W w')
    (C : ∀ W, Calls Tryd.prog 14 #[.string r] W fun e w' => e = .returned (.tuple #[.bool g, .string d]) ∧ Below W.heap.size W w')
    (A : ∀ W, Gv W → Calls Tryd.prog 16 #[.string d] W fun e w' => (e = .returned (.tuple #[.int .i64 v, .nilIface])) ∧ Below W.heap.size W w') (G : Gv w) :
    Calls Tryd.prog 6 #[.string s] w fun e w' => e = .returned (.tuple #[.int .i64 (0), .agg #[.int .i64 0, .int .i64 6]]) ∧ Below w.heap.size w w' := by
  have h1 : ¬ (65536 : Int) < (s.size : Int) := by omega
  have F := Fb.new w 28
  have pr : Below w.heap.size w (w.alloc (.cells #[.int .i64 0, .int .i64 0] 28)) := (Below.refl _ _).alloc (Nat.le_refl _) _
  replace G := G.grow pr
  go_enter Tryd.func6, Tryd.ntmps6
  go_wp2_with (first
    | (go_at_call 13; (refine (B _).mono ?_); rintro e w1 ⟨rfl, b1⟩; replace F := F.grow b1; replace pr := pr.trans (b1.mono pr.size); replace G := G.grow b1)
    | (go_at_call 15; (refine (R _ G).mono ?_); rintro e w2 ⟨rfl, b2⟩; replace F := F.grow b2; replace pr := pr.trans (b2.mono pr.size); replace G := G.grow b2)
    | (go_at_call 14; (refine (C _).mono ?_); rintro e w3 ⟨rfl, b3⟩; replace F := F.grow b3; replace pr := pr.trans (b3.mono pr.size); replace G := G.grow b3)
    | (go_at_call 16; (refine (A _ G).mono ?_); rintro e w4 ⟨rfl, b4⟩; replace F := F.grow b4; replace pr := pr.trans (b4.mono pr.size); obtain ⟨k0, k1, f0, f1⟩ := F; have F : Hid (Fb w4 w.heap.size) := ⟨k0, k1, f0, f1⟩)
    | (go_at_call 8; (refine (isAmount_any v _).mono ?_); rintro e w5 ⟨rfl, rfl⟩))
  have F0 := F.out.at0 (.int .i64 0) (.int .i64 6)
  have F1 := F.out.at1 (.int .i64 0) (.int .i64 6)
  exact bodyPost_ret (v := .tuple #[.int .i64 (0), .agg #[.int .i64 0, .int .i64 6]]) (by simp [results, Tryd.results6, go_sem, F0, F1]) rfl ⟨rfl, bset2 pr (Nat.le_refl _)⟩
set_option maxHeartbeats 1600000 in
set_option maxRecDepth 100000 in
theorem read_range (s r d : ByteArray) (n : Nat) (g : Bool) (v : Int) (w : World) (hs : ¬ 65536 < s.size)
    (B : ∀ W, Calls Tryd.prog 13 #[.string s] W fun e w' => e = .returned (.tuple #[.int .i64 (n : Int), .bool true]) ∧ Below W.heap.size W w')
    (R : ∀ W, Gv W → Calls Tryd.prog 15 #[.string s, .string ⟨#[46]⟩, .string ⟨#[]⟩, .int .i64 1] W fun e w' => e = .returned (.string r) ∧ Below W.heap.size W w')
    (C : ∀ W, Calls Tryd.prog 14 #[.string r] W fun e w' => e = .returned (.tuple #[.bool g, .string d]) ∧ Below W.heap.size W w')
    (A : ∀ W, Gv W → Calls Tryd.prog 16 #[.string d] W fun e w' => (∃ N, e = .returned (.tuple #[.int .i64 v, .iface 77 (.pointer (some ⟨N, 0, none⟩))])) ∧ Below W.heap.size W w') (G : Gv w) :
    Calls Tryd.prog 6 #[.string s] w fun e w' => e = .returned (.tuple #[.int .i64 (0), .agg #[.int .i64 0, .int .i64 6]]) ∧ Below w.heap.size w w' := by
  have h1 : ¬ (65536 : Int) < (s.size : Int) := by omega
  have F := Fb.new w 28
  have pr : Below w.heap.size w (w.alloc (.cells #[.int .i64 0, .int .i64 0] 28)) := (Below.refl _ _).alloc (Nat.le_refl _) _
  replace G := G.grow pr
  go_enter Tryd.func6, Tryd.ntmps6
  go_wp2_with (first
    | (go_at_call 13; (refine (B _).mono ?_); rintro e w1 ⟨rfl, b1⟩; replace F := F.grow b1; replace pr := pr.trans (b1.mono pr.size); replace G := G.grow b1)
    | (go_at_call 15; (refine (R _ G).mono ?_); rintro e w2 ⟨rfl, b2⟩; replace F := F.grow b2; replace pr := pr.trans (b2.mono pr.size); replace G := G.grow b2)
    | (go_at_call 14; (refine (C _).mono ?_); rintro e w3 ⟨rfl, b3⟩; replace F := F.grow b3; replace pr := pr.trans (b3.mono pr.size); replace G := G.grow b3)
    | (go_at_call 16; (refine (A _ G).mono ?_); rintro e w4 ⟨⟨N, rfl⟩, b4⟩; replace F := F.grow b4; replace pr := pr.trans (b4.mono pr.size); obtain ⟨k0, k1, f0, f1⟩ := F; have F : Hid (Fb w4 w.heap.size) := ⟨k0, k1, f0, f1⟩))
  have F0 := F.out.at0 (.int .i64 0) (.int .i64 6)
  have F1 := F.out.at1 (.int .i64 0) (.int .i64 6)
  exact bodyPost_ret (v := .tuple #[.int .i64 (0), .agg #[.int .i64 0, .int .i64 6]]) (by simp [results, Tryd.results6, go_sem, F0, F1]) rfl ⟨rfl, bset2 pr (Nat.le_refl _)⟩
end Go.Proofs.YtcjlpfglnbddjaaDoor.Mo
