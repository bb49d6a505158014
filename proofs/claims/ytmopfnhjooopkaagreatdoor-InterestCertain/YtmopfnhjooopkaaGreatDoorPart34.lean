import Derived.Test.YtmopfnhjooopkaaGreatDoorPart33

namespace Go.Proofs.YtmopfnhjooopkaaGreatDoor.Mo
open Go.RowKit Fu Tn Go.Lib
set_option maxRecDepth 100000 in
set_option maxHeartbeats 800000 in
theorem PSigned_alike (g1 g2 : Bool) (P1 P2 : Option Addr) (M1 C1 M2 C2 : Nat) (A B : Int) (w : World) (k1 : Nn w P1 M1 C1 A) (k2 : Nn w P2 M2 C2 B) (m : Nat) (hA : A < pw m) (hB : B < pw m) (hm : m ≤ 1000000) (hg : (g1 == g2) = true) : Calls Tryz.prog 139 #[.bool g1, .agg #[.slice P1 M1 C1], .bool g2, .agg #[.slice P2 M2 C2]] w fun e w' => ∃ a l c, e = .returned (.tuple #[.bool g1, .agg #[.slice a l c]]) ∧ Nn w' a l c (A + B) ∧ Below w.heap.size w w' := by
  have K1 := ((Bx.new w (.slice P1 M1 C1) 55).alloc (.cells #[.slice P2 M2 C2] 55)).alloc (.cells #[.slice none 0 0] 55)
  have K2 := (Bx.new (w.alloc (.cells #[.slice P1 M1 C1] 55)) (.slice P2 M2 C2) 55).alloc (.cells #[.slice none 0 0] 55)
  have K3 := Bx.new ((w.alloc (.cells #[.slice P1 M1 C1] 55)).alloc (.cells #[.slice P2 M2 C2] 55)) (.slice none 0 0) 55
  simp only [World.size_alloc] at K2 K3
  have pr : Below w.heap.size w (((w.alloc (.cells #[.slice P1 M1 C1] 55)).alloc (.cells #[.slice P2 M2 C2] 55)).alloc (.cells #[.slice none 0 0] 55)) := (((Below.refl _ _).alloc (Nat.le_refl _) _).alloc (by simp) _).alloc (by simp; omega) _
  have h1 := k1.grow pr
  have h2 := k2.grow pr
  have x1 := K1.1
  have x2 := K2.1
  have x3 := K3.1
  have x3' := K3.2
  go_enter Tryz.func139, Tryz.ntmps139
  go_wp2_with (first
    | (go_at_call 110; refine (Add_n h1 h2 hA hB hm).mono ?_; rintro e wa ⟨a, l, c, rfl, H, b1⟩; have K1a := K1.below b1; have K2a := K2.below b1; have K3a := K3.below b1; have pa := bel' pr b1; have x1a := K1a.1; have x2a := K2a.1; have x3a := K3a.1; have x3a' := K3a.2)
    | fail)
  have q := H.box (u := .slice a l c) K3a
  have KE := K3a.set (.slice a l c)
  have bE := below_put pa (show w.heap.size ≤ w.heap.size + 1 + 1 by omega) (.slice a l c)
  generalize wa.setCell ⟨w.heap.size + 1 + 1, 0, none⟩ (.slice a l c) = WE at *
  have z0 := KE.1
  exact bodyPost_ret (v := .tuple #[.bool g1, .agg #[.slice a l c]]) (by simp [results, Tryz.results139, go_sem, z0]) rfl ⟨_, _, _, rfl, q, bE⟩
set_option maxRecDepth 100000 in
set_option maxHeartbeats 800000 in
theorem PSigned_nought (g1 g2 : Bool) (P1 P2 : Option Addr) (M1 C1 M2 C2 : Nat) (A B : Int) (w : World) (k1 : Nn w P1 M1 C1 A) (k2 : Nn w P2 M2 C2 B) (m : Nat) (hA : A < pw m) (hm : m ≤ 1000000) (hg : (g1 == g2) = false) (hc : cmp3 A B = 0) : Calls Tryz.prog 139 #[.bool g1, .agg #[.slice P1 M1 C1], .bool g2, .agg #[.slice P2 M2 C2]] w fun e w' => ∃ a l c, e = .returned (.tuple #[.bool false, .agg #[.slice a l c]]) ∧ Nn w' a l c 0 ∧ Below w.heap.size w w' := by
  have K1 := ((Bx.new w (.slice P1 M1 C1) 55).alloc (.cells #[.slice P2 M2 C2] 55)).alloc (.cells #[.slice none 0 0] 55)
  have K2 := (Bx.new (w.alloc (.cells #[.slice P1 M1 C1] 55)) (.slice P2 M2 C2) 55).alloc (.cells #[.slice none 0 0] 55)
  have K3 := Bx.new ((w.alloc (.cells #[.slice P1 M1 C1] 55)).alloc (.cells #[.slice P2 M2 C2] 55)) (.slice none 0 0) 55
  simp only [World.size_alloc] at K2 K3
  have pr : Below w.heap.size w (((w.alloc (.cells #[.slice P1 M1 C1] 55)).alloc (.cells #[.slice P2 M2 C2] 55)).alloc (.cells #[.slice none 0 0] 55)) := (((Below.refl _ _).alloc (Nat.le_refl _) _).alloc (by simp) _).alloc (by simp; omega) _
  have h1 := k1.grow pr
  have h2 := k2.grow pr
  have x1 := K1.1
  have x2 := K2.1
  have x3 := K3.1
  have x3' := K3.2
  have CM := fun x (b : Below _ _ x) => Cmp_n (h1.grow b) (h2.grow b) hA hm
  rw [hc] at CM
  go_enter Tryz.func139, Tryz.ntmps139
  go_wp2_with (first
    | (go_at_call 77; refine (CM _ (Below.refl _ _)).mono ?_; rintro e wb ⟨rfl, b2⟩; have K1b := K1.below b2; have K2b := K2.below b2; have K3b := K3.below b2; have pb := bel' pr b2; have x1b := K1b.1; have x2b := K2b.1; have x3b := K3b.1; have x3b' := K3b.2; have h1b := h1.grow b2; have h2b := h2.grow b2)
    | fail)
  have H : Nn wb none 0 0 0 := ⟨[], Rd.nil _, Nm.nil, rfl⟩
  have q := H.box (u := .slice none 0 0) K3b
  have KE := K3b.set (.slice none 0 0)
  have bE := below_put pb (show w.heap.size ≤ w.heap.size + 1 + 1 by omega) (.slice none 0 0)
  generalize wb.setCell ⟨w.heap.size + 1 + 1, 0, none⟩ (.slice none 0 0) = WE at *
  have z0 := KE.1
  exact bodyPost_ret (v := .tuple #[.bool false, .agg #[.slice none 0 0]]) (by simp [results, Tryz.results139, go_sem, z0]) rfl ⟨_, _, _, rfl, q, bE⟩
set_option maxRecDepth 100000 in
set_option maxHeartbeats 800000 in
theorem PSigned_more (g1 g2 : Bool) (P1 P2 : Option Addr) (M1 C1 M2 C2 : Nat) (A B : Int) (w : World) (k1 : Nn w P1 M1 C1 A) (k2 : Nn w P2 M2 C2 B) (m : Nat) (hA : A < pw m) (hB : B < pw m) (hm : m ≤ 1000000) (hg : (g1 == g2) = false) (hc : cmp3 A B = 1) : Calls Tryz.prog 139 #[.bool g1, .agg #[.slice P1 M1 C1], .bool g2, .agg #[.slice P2 M2 C2]] w fun e w' => ∃ a l c, e = .returned (.tuple #[.bool g1, .agg #[.slice a l c]]) ∧ Nn w' a l c (A - B) ∧ Below w.heap.size w w' := by
  have K1 := ((Bx.new w (.slice P1 M1 C1) 55).alloc (.cells #[.slice P2 M2 C2] 55)).alloc (.cells #[.slice none 0 0] 55)
  have K2 := (Bx.new (w.alloc (.cells #[.slice P1 M1 C1] 55)) (.slice P2 M2 C2) 55).alloc (.cells #[.slice none 0 0] 55)
  have K3 := Bx.new ((w.alloc (.cells #[.slice P1 M1 C1] 55)).alloc (.cells #[.slice P2 M2 C2] 55)) (.slice none 0 0) 55
  simp only [World.size_alloc] at K2 K3
  have pr : Below w.heap.size w (((w.alloc (.cells #[.slice P1 M1 C1] 55)).alloc (.cells #[.slice P2 M2 C2] 55)).alloc (.cells #[.slice none 0 0] 55)) := (((Below.refl _ _).alloc (Nat.le_refl _) _).alloc (by simp) _).alloc (by simp; omega) _
  have h1 := k1.grow pr
  have h2 := k2.grow pr
  have x1 := K1.1
  have x2 := K2.1
  have x3 := K3.1
  have x3' := K3.2
  have CM := fun x (b : Below _ _ x) => Cmp_n (h1.grow b) (h2.grow b) hA hm
  rw [hc] at CM
  go_enter Tryz.func139, Tryz.ntmps139
  go_wp2_with (first
    | (go_at_call 77; refine (CM _ (Below.refl _ _)).mono ?_; rintro e wb ⟨rfl, b2⟩; have K1b := K1.below b2; have K2b := K2.below b2; have K3b := K3.below b2; have pb := bel' pr b2; have x1b := K1b.1; have x2b := K2b.1; have x3b := K3b.1; have x3b' := K3b.2; have h1b := h1.grow b2; have h2b := h2.grow b2)
    | (go_at_call 136; refine (Sub_n h1b h2b hA hB hm (by unfold cmp3 at hc; split at hc <;> (try split at hc) <;> omega)).mono ?_; rintro e wc ⟨a, l, c, rfl, H, b3⟩; have K1c := K1b.below b3; have K2c := K2b.below b3; have K3c := K3b.below b3; have pc := bel' pb b3; have x1c := K1c.1; have x2c := K2c.1; have x3c := K3c.1; have x3c' := K3c.2)
    | fail)
  have q := H.box (u := .slice a l c) K3c
  have KE := K3c.set (.slice a l c)
  have bE := below_put pc (show w.heap.size ≤ w.heap.size + 1 + 1 by omega) (.slice a l c)
  generalize wc.setCell ⟨w.heap.size + 1 + 1, 0, none⟩ (.slice a l c) = WE at *
  have z0 := KE.1
  exact bodyPost_ret (v := .tuple #[.bool g1, .agg #[.slice a l c]]) (by simp [results, Tryz.results139, go_sem, z0]) rfl ⟨_, _, _, rfl, q, bE⟩
set_option maxRecDepth 100000 in
set_option maxHeartbeats 800000 in
theorem PSigned_less (g1 g2 : Bool) (P1 P2 : Option Addr) (M1 C1 M2 C2 : Nat) (A B : Int) (w : World) (k1 : Nn w P1 M1 C1 A) (k2 : Nn w P2 M2 C2 B) (m : Nat) (hA : A < pw m) (hB : B < pw m) (hm : m ≤ 1000000) (hg : (g1 == g2) = false) (hc : cmp3 A B = -1) : Calls Tryz.prog 139 #[.bool g1, .agg #[.slice P1 M1 C1], .bool g2, .agg #[.slice P2 M2 C2]] w fun e w' => ∃ a l c, e = .returned (.tuple #[.bool g2, .agg #[.slice a l c]]) ∧ Nn w' a l c (B - A) ∧ Below w.heap.size w w' := by
  have K1 := ((Bx.new w (.slice P1 M1 C1) 55).alloc (.cells #[.slice P2 M2 C2] 55)).alloc (.cells #[.slice none 0 0] 55)
  have K2 := (Bx.new (w.alloc (.cells #[.slice P1 M1 C1] 55)) (.slice P2 M2 C2) 55).alloc (.cells #[.slice none 0 0] 55)
  have K3 := Bx.new ((w.alloc (.cells #[.slice P1 M1 C1] 55)).alloc (.cells #[.slice P2 M2 C2] 55)) (.slice none 0 0) 55
  simp only [World.size_alloc] at K2 K3
  have pr : Below w.heap.size w (((w.alloc (.cells #[.slice P1 M1 C1] 55)).alloc (.cells #[.slice P2 M2 C2] 55)).alloc (.cells #[.slice none 0 0] 55)) := (((Below.refl _ _).alloc (Nat.le_refl _) _).alloc (by simp) _).alloc (by simp; omega) _
  have h1 := k1.grow pr
  have h2 := k2.grow pr
  have x1 := K1.1
  have x2 := K2.1
  have x3 := K3.1
  have x3' := K3.2
  have CM := fun x (b : Below _ _ x) => Cmp_n (h1.grow b) (h2.grow b) hA hm
  rw [hc] at CM
  go_enter Tryz.func139, Tryz.ntmps139
  go_wp2_with (first
    | (go_at_call 77; refine (CM _ (Below.refl _ _)).mono ?_; rintro e wb ⟨rfl, b2⟩; have K1b := K1.below b2; have K2b := K2.below b2; have K3b := K3.below b2; have pb := bel' pr b2; have x1b := K1b.1; have x2b := K2b.1; have x3b := K3b.1; have x3b' := K3b.2; have h1b := h1.grow b2; have h2b := h2.grow b2)
    | (go_at_call 136; refine (Sub_n h2b h1b hB hA hm (by unfold cmp3 at hc; split at hc <;> (try split at hc) <;> omega)).mono ?_; rintro e wc ⟨a, l, c, rfl, H, b3⟩; have K1c := K1b.below b3; have K2c := K2b.below b3; have K3c := K3b.below b3; have pc := bel' pb b3; have x1c := K1c.1; have x2c := K2c.1; have x3c := K3c.1; have x3c' := K3c.2)
    | fail)
  have q := H.box (u := .slice a l c) K3c
  have KE := K3c.set (.slice a l c)
  have bE := below_put pc (show w.heap.size ≤ w.heap.size + 1 + 1 by omega) (.slice a l c)
  generalize wc.setCell ⟨w.heap.size + 1 + 1, 0, none⟩ (.slice a l c) = WE at *
  have z0 := KE.1
  exact bodyPost_ret (v := .tuple #[.bool g2, .agg #[.slice a l c]]) (by simp [results, Tryz.results139, go_sem, z0]) rfl ⟨_, _, _, rfl, q, bE⟩
end Go.Proofs.YtmopfnhjooopkaaGreatDoor.Mo
