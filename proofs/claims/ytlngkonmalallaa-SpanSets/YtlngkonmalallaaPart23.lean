import Derived.Test.YtlngkonmalallaaPart22
import Derived.Deep.RegionHeld3
import Derived.Test.YtlngkonmalallaaPart21

namespace Go.Proofs.Ytlngkonmalallaa
open Go.RowKit Tn

set_option maxRecDepth 100000 in
set_option maxHeartbeats 3200000 in
theorem sets_ok (a1 a2 b1 b2 HL HU R1 R2 : Nat) (mE ci : Int) (tt wi : Bool) (ht : (tt = true ∧ mE = 0) ∨ (tt = false ∧ mE = 7))
    (W : ∀ w, Calls Try.prog 41 #[spn a1 a2, spn b1 b2] w fun x w' => x = .returned (.int .i64 0) ∧ Below w.heap.size w w')
    (H : ∀ w, Calls Try.prog 42 #[spn a1 a2, spn b1 b2] w fun x w' => x = .returned (.tuple #[spn HL HU, .int .i64 0]) ∧ Below w.heap.size w w')
    (M : ∀ w, Calls Try.prog 43 #[spn a1 a2, spn b1 b2] w fun x w' => x = .returned (.tuple #[spn R1 R2, .int .i64 mE]) ∧ Below w.heap.size w w')
    (I : ∀ w, Calls Try.prog 44 #[spn a1 a2, spn b1 b2] w fun x w' => x = .returned (.tuple #[.bool wi, .int .i64 0]) ∧ Below w.heap.size w w')
    (C : ∀ w, Calls Try.prog 45 #[spn a1 a2, spn b1 b2] w fun x w' => x = .returned (.tuple #[.int .i64 ci, .int .i64 0]) ∧ Below w.heap.size w w')
    (RM : ∀ w, Calls Try.prog 47 #[spn a1 a2, spn b1 b2] w fun x w' => x = .returned (.tuple #[spn R1 R2, .bool tt]) ∧ Below w.heap.size w w')
    (RH : ∀ w, Calls Try.prog 48 #[spn a1 a2, spn b1 b2] w fun x w' => x = .returned (spn HL HU) ∧ Below w.heap.size w w')
    (RI : ∀ w, Calls Try.prog 49 #[spn a1 a2, spn b1 b2] w fun x w' => x = .returned (.bool wi) ∧ Below w.heap.size w w')
    (RC : ∀ w, Calls Try.prog 50 #[spn a1 a2, spn b1 b2] w fun x w' => x = .returned (.int .i64 ci) ∧ Below w.heap.size w w')
    (S1 : ∀ w, Calls Try.prog 46 #[spn HL HU, .int .i64 0, spn HL HU, .int .i64 0] w fun x w' => x = .returned (.bool true) ∧ Below w.heap.size w w')
    (S2 : ∀ w, Calls Try.prog 46 #[spn R1 R2, .int .i64 mE, spn R1 R2, .int .i64 mE] w fun x w' => x = .returned (.bool true) ∧ Below w.heap.size w w')
    (w : World) : Calls Try.prog 7 #[spn a1 a2, spn b1 b2] w fun x w' => x = .returned (.bool true) ∧ Below w.heap.size w w' := by
  have sf := fun w a n m => run_store_f Try.prog w a .f64 n m
  have e1 : (wi == wi) = true := by simp
  have e2 : (ci == ci) = true := by simp
  have KA := (Blk.new w #[.float .f64 a1, .float .f64 a2] 72).alloc (.cells #[.float .f64 b1, .float .f64 b2] 72)
  have KB := Blk.new (w.alloc (.cells #[.float .f64 a1, .float .f64 a2] 72)) #[.float .f64 b1, .float .f64 b2] 72
  simp only [World.size_alloc] at KB
  have pr : Below w.heap.size w ((w.alloc (.cells #[.float .f64 a1, .float .f64 a2] 72)).alloc (.cells #[.float .f64 b1, .float .f64 b2] 72)) := ((Below.refl _ _).alloc (Nat.le_refl _) _).alloc (by simp) _
  rcases ht with ⟨rfl, rfl⟩ | ⟨rfl, rfl⟩
  all_goals
    go_enter Try.func7, Try.ntmps7
    go_wp2_with (first
      | (go_at_call 41; (with_reducible refine (W _).mono ?_); go_must (rintro r w1 ⟨rfl, bb⟩; replace KA := KA.below bb KA.lt; replace KB := KB.below bb KB.lt; replace pr := bel pr bb; clear bb; have x0 : w1.cell? ⟨w.heap.size, 0, none⟩ = some (.float .f64 a1) := KA.at 0; have x1 : w1.cell? ⟨w.heap.size, 1, none⟩ = some (.float .f64 a2) := KA.at 1; have y0 : w1.cell? ⟨w.heap.size + 1, 0, none⟩ = some (.float .f64 b1) := KB.at 0; have y1 : w1.cell? ⟨w.heap.size + 1, 1, none⟩ = some (.float .f64 b2) := KB.at 1))
      | (go_at_call 42; (with_reducible refine (H _).mono ?_); go_must (rintro r w2 ⟨rfl, bb⟩; replace KA := KA.below bb KA.lt; replace KB := KB.below bb KB.lt; replace pr := bel pr bb; clear bb; have KH := Blk.new w2 #[.float .f64 (HL), .float .f64 (HU)] 72; replace KA := KA.alloc (.cells #[.float .f64 (HL), .float .f64 (HU)] 72); replace KB := KB.alloc (.cells #[.float .f64 (HL), .float .f64 (HU)] 72); replace pr := pr.alloc pr.size (.cells #[.float .f64 (HL), .float .f64 (HU)] 72); have x0 : (w2.alloc (.cells #[.float .f64 (HL), .float .f64 (HU)] 72)).cell? ⟨w.heap.size, 0, none⟩ = some (.float .f64 a1) := KA.at 0; have x1 : (w2.alloc (.cells #[.float .f64 (HL), .float .f64 (HU)] 72)).cell? ⟨w.heap.size, 1, none⟩ = some (.float .f64 a2) := KA.at 1; have y0 : (w2.alloc (.cells #[.float .f64 (HL), .float .f64 (HU)] 72)).cell? ⟨w.heap.size + 1, 0, none⟩ = some (.float .f64 b1) := KB.at 0; have y1 : (w2.alloc (.cells #[.float .f64 (HL), .float .f64 (HU)] 72)).cell? ⟨w.heap.size + 1, 1, none⟩ = some (.float .f64 b2) := KB.at 1))
      | (go_at_call 43; (with_reducible refine (M _).mono ?_); go_must (rintro r w3 ⟨rfl, bb⟩; replace KA := KA.below bb KA.lt; replace KB := KB.below bb KB.lt; replace KH := KH.below bb KH.lt; replace pr := bel pr bb; clear bb; have KM := Blk.new w3 #[.float .f64 (R1), .float .f64 (R2)] 72; replace KA := KA.alloc (.cells #[.float .f64 (R1), .float .f64 (R2)] 72); replace KB := KB.alloc (.cells #[.float .f64 (R1), .float .f64 (R2)] 72); replace KH := KH.alloc (.cells #[.float .f64 (R1), .float .f64 (R2)] 72); replace pr := pr.alloc pr.size (.cells #[.float .f64 (R1), .float .f64 (R2)] 72); have x0 : (w3.alloc (.cells #[.float .f64 (R1), .float .f64 (R2)] 72)).cell? ⟨w.heap.size, 0, none⟩ = some (.float .f64 a1) := KA.at 0; have x1 : (w3.alloc (.cells #[.float .f64 (R1), .float .f64 (R2)] 72)).cell? ⟨w.heap.size, 1, none⟩ = some (.float .f64 a2) := KA.at 1; have y0 : (w3.alloc (.cells #[.float .f64 (R1), .float .f64 (R2)] 72)).cell? ⟨w.heap.size + 1, 0, none⟩ = some (.float .f64 b1) := KB.at 0; have y1 : (w3.alloc (.cells #[.float .f64 (R1), .float .f64 (R2)] 72)).cell? ⟨w.heap.size + 1, 1, none⟩ = some (.float .f64 b2) := KB.at 1; have h0 : (w3.alloc (.cells #[.float .f64 (R1), .float .f64 (R2)] 72)).cell? ⟨w2.heap.size, 0, none⟩ = some (.float .f64 (HL)) := KH.at 0; have h1 : (w3.alloc (.cells #[.float .f64 (R1), .float .f64 (R2)] 72)).cell? ⟨w2.heap.size, 1, none⟩ = some (.float .f64 (HU)) := KH.at 1))
      | (go_at_call 44; (with_reducible refine (I _).mono ?_); go_must (rintro r w4 ⟨rfl, bb⟩; replace KA := KA.below bb KA.lt; replace KB := KB.below bb KB.lt; replace KH := KH.below bb KH.lt; replace KM := KM.below bb KM.lt; replace pr := bel pr bb; clear bb; have x0 : w4.cell? ⟨w.heap.size, 0, none⟩ = some (.float .f64 a1) := KA.at 0; have x1 : w4.cell? ⟨w.heap.size, 1, none⟩ = some (.float .f64 a2) := KA.at 1; have y0 : w4.cell? ⟨w.heap.size + 1, 0, none⟩ = some (.float .f64 b1) := KB.at 0; have y1 : w4.cell? ⟨w.heap.size + 1, 1, none⟩ = some (.float .f64 b2) := KB.at 1; have h0 : w4.cell? ⟨w2.heap.size, 0, none⟩ = some (.float .f64 (HL)) := KH.at 0; have h1 : w4.cell? ⟨w2.heap.size, 1, none⟩ = some (.float .f64 (HU)) := KH.at 1; have m0 : w4.cell? ⟨w3.heap.size, 0, none⟩ = some (.float .f64 (R1)) := KM.at 0; have m1 : w4.cell? ⟨w3.heap.size, 1, none⟩ = some (.float .f64 (R2)) := KM.at 1))
      | (go_at_call 45; (with_reducible refine (C _).mono ?_); go_must (rintro r w5 ⟨rfl, bb⟩; replace KA := KA.below bb KA.lt; replace KB := KB.below bb KB.lt; replace KH := KH.below bb KH.lt; replace KM := KM.below bb KM.lt; replace pr := bel pr bb; clear bb; have x0 : w5.cell? ⟨w.heap.size, 0, none⟩ = some (.float .f64 a1) := KA.at 0; have x1 : w5.cell? ⟨w.heap.size, 1, none⟩ = some (.float .f64 a2) := KA.at 1; have y0 : w5.cell? ⟨w.heap.size + 1, 0, none⟩ = some (.float .f64 b1) := KB.at 0; have y1 : w5.cell? ⟨w.heap.size + 1, 1, none⟩ = some (.float .f64 b2) := KB.at 1; have h0 : w5.cell? ⟨w2.heap.size, 0, none⟩ = some (.float .f64 (HL)) := KH.at 0; have h1 : w5.cell? ⟨w2.heap.size, 1, none⟩ = some (.float .f64 (HU)) := KH.at 1; have m0 : w5.cell? ⟨w3.heap.size, 0, none⟩ = some (.float .f64 (R1)) := KM.at 0; have m1 : w5.cell? ⟨w3.heap.size, 1, none⟩ = some (.float .f64 (R2)) := KM.at 1))
      | (go_at_call 47; (with_reducible refine (RM _).mono ?_); go_must (rintro r w6 ⟨rfl, bb⟩; replace KA := KA.below bb KA.lt; replace KB := KB.below bb KB.lt; replace KH := KH.below bb KH.lt; replace KM := KM.below bb KM.lt; replace pr := bel pr bb; clear bb; have KW := Blk.new w6 #[.float .f64 (R1), .float .f64 (R2)] 72; replace KA := KA.alloc (.cells #[.float .f64 (R1), .float .f64 (R2)] 72); replace KB := KB.alloc (.cells #[.float .f64 (R1), .float .f64 (R2)] 72); replace KH := KH.alloc (.cells #[.float .f64 (R1), .float .f64 (R2)] 72); replace KM := KM.alloc (.cells #[.float .f64 (R1), .float .f64 (R2)] 72); replace pr := pr.alloc pr.size (.cells #[.float .f64 (R1), .float .f64 (R2)] 72); have x0 : (w6.alloc (.cells #[.float .f64 (R1), .float .f64 (R2)] 72)).cell? ⟨w.heap.size, 0, none⟩ = some (.float .f64 a1) := KA.at 0; have x1 : (w6.alloc (.cells #[.float .f64 (R1), .float .f64 (R2)] 72)).cell? ⟨w.heap.size, 1, none⟩ = some (.float .f64 a2) := KA.at 1; have y0 : (w6.alloc (.cells #[.float .f64 (R1), .float .f64 (R2)] 72)).cell? ⟨w.heap.size + 1, 0, none⟩ = some (.float .f64 b1) := KB.at 0; have y1 : (w6.alloc (.cells #[.float .f64 (R1), .float .f64 (R2)] 72)).cell? ⟨w.heap.size + 1, 1, none⟩ = some (.float .f64 b2) := KB.at 1; have h0 : (w6.alloc (.cells #[.float .f64 (R1), .float .f64 (R2)] 72)).cell? ⟨w2.heap.size, 0, none⟩ = some (.float .f64 (HL)) := KH.at 0; have h1 : (w6.alloc (.cells #[.float .f64 (R1), .float .f64 (R2)] 72)).cell? ⟨w2.heap.size, 1, none⟩ = some (.float .f64 (HU)) := KH.at 1; have m0 : (w6.alloc (.cells #[.float .f64 (R1), .float .f64 (R2)] 72)).cell? ⟨w3.heap.size, 0, none⟩ = some (.float .f64 (R1)) := KM.at 0; have m1 : (w6.alloc (.cells #[.float .f64 (R1), .float .f64 (R2)] 72)).cell? ⟨w3.heap.size, 1, none⟩ = some (.float .f64 (R2)) := KM.at 1))
      | fail)
    clear x0 x1 y0 y1 h0 h1 m0 m1
    generalize w6.alloc (.cells #[.float .f64 (R1), .float .f64 (R2)] 72) = V at *
    have x0 : V.cell? ⟨w.heap.size, 0, none⟩ = some (.float .f64 (a1)) := KA.at 0
    have x1 : V.cell? ⟨w.heap.size, 1, none⟩ = some (.float .f64 (a2)) := KA.at 1
    have y0 : V.cell? ⟨w.heap.size + 1, 0, none⟩ = some (.float .f64 (b1)) := KB.at 0
    have y1 : V.cell? ⟨w.heap.size + 1, 1, none⟩ = some (.float .f64 (b2)) := KB.at 1
    have h0 : V.cell? ⟨w2.heap.size, 0, none⟩ = some (.float .f64 (HL)) := KH.at 0
    have h1 : V.cell? ⟨w2.heap.size, 1, none⟩ = some (.float .f64 (HU)) := KH.at 1
    have m0 : V.cell? ⟨w3.heap.size, 0, none⟩ = some (.float .f64 (R1)) := KM.at 0
    have m1 : V.cell? ⟨w3.heap.size, 1, none⟩ = some (.float .f64 (R2)) := KM.at 1
    have k0 : V.cell? ⟨w6.heap.size, 0, none⟩ = some (.float .f64 (R1)) := KW.at 0
    have k1 : V.cell? ⟨w6.heap.size, 1, none⟩ = some (.float .f64 (R2)) := KW.at 1
    go_region_held3 (fun x => x.cell? ⟨w.heap.size, 0, none⟩ = some (.float .f64 (a1)) ∧ x.cell? ⟨w.heap.size, 1, none⟩ = some (.float .f64 (a2)) ∧ x.cell? ⟨w.heap.size + 1, 0, none⟩ = some (.float .f64 (b1)) ∧ x.cell? ⟨w.heap.size + 1, 1, none⟩ = some (.float .f64 (b2)) ∧ x.cell? ⟨w2.heap.size, 0, none⟩ = some (.float .f64 (HL)) ∧ x.cell? ⟨w2.heap.size, 1, none⟩ = some (.float .f64 (HU)) ∧ x.cell? ⟨w3.heap.size, 0, none⟩ = some (.float .f64 (R1)) ∧ x.cell? ⟨w3.heap.size, 1, none⟩ = some (.float .f64 (R2)) ∧ x.cell? ⟨w6.heap.size, 0, none⟩ = some (.float .f64 (R1)) ∧ x.cell? ⟨w6.heap.size, 1, none⟩ = some (.float .f64 (R2))) (go_keep) (first
      | (go_at_call 48; (with_reducible refine (RH _).mono ?_); rintro r w7 ⟨rfl, bb⟩; replace KA := KA.below bb KA.lt; replace KB := KB.below bb KB.lt; replace KH := KH.below bb KH.lt; replace KM := KM.below bb KM.lt; replace KW := KW.below bb KW.lt; replace pr := bel pr bb; clear bb; have x0 : w7.cell? ⟨w.heap.size, 0, none⟩ = some (.float .f64 (a1)) := KA.at 0; have x1 : w7.cell? ⟨w.heap.size, 1, none⟩ = some (.float .f64 (a2)) := KA.at 1; have y0 : w7.cell? ⟨w.heap.size + 1, 0, none⟩ = some (.float .f64 (b1)) := KB.at 0; have y1 : w7.cell? ⟨w.heap.size + 1, 1, none⟩ = some (.float .f64 (b2)) := KB.at 1; have h0 : w7.cell? ⟨w2.heap.size, 0, none⟩ = some (.float .f64 (HL)) := KH.at 0; have h1 : w7.cell? ⟨w2.heap.size, 1, none⟩ = some (.float .f64 (HU)) := KH.at 1; have m0 : w7.cell? ⟨w3.heap.size, 0, none⟩ = some (.float .f64 (R1)) := KM.at 0; have m1 : w7.cell? ⟨w3.heap.size, 1, none⟩ = some (.float .f64 (R2)) := KM.at 1; have k0 : w7.cell? ⟨w6.heap.size, 0, none⟩ = some (.float .f64 (R1)) := KW.at 0; have k1 : w7.cell? ⟨w6.heap.size, 1, none⟩ = some (.float .f64 (R2)) := KW.at 1)
      | (go_at_call 48; (with_reducible refine (RH _).mono ?_); rintro r w7 ⟨rfl, bb⟩; replace KA := KA.below (below_undrew bb) KA.lt; replace KB := KB.below (below_undrew bb) KB.lt; replace KH := KH.below (below_undrew bb) KH.lt; replace KM := KM.below (below_undrew bb) KM.lt; replace KW := KW.below (below_undrew bb) KW.lt; replace pr := bel pr (below_undrew bb); clear bb; have x0 : w7.cell? ⟨w.heap.size, 0, none⟩ = some (.float .f64 (a1)) := KA.at 0; have x1 : w7.cell? ⟨w.heap.size, 1, none⟩ = some (.float .f64 (a2)) := KA.at 1; have y0 : w7.cell? ⟨w.heap.size + 1, 0, none⟩ = some (.float .f64 (b1)) := KB.at 0; have y1 : w7.cell? ⟨w.heap.size + 1, 1, none⟩ = some (.float .f64 (b2)) := KB.at 1; have h0 : w7.cell? ⟨w2.heap.size, 0, none⟩ = some (.float .f64 (HL)) := KH.at 0; have h1 : w7.cell? ⟨w2.heap.size, 1, none⟩ = some (.float .f64 (HU)) := KH.at 1; have m0 : w7.cell? ⟨w3.heap.size, 0, none⟩ = some (.float .f64 (R1)) := KM.at 0; have m1 : w7.cell? ⟨w3.heap.size, 1, none⟩ = some (.float .f64 (R2)) := KM.at 1; have k0 : w7.cell? ⟨w6.heap.size, 0, none⟩ = some (.float .f64 (R1)) := KW.at 0; have k1 : w7.cell? ⟨w6.heap.size, 1, none⟩ = some (.float .f64 (R2)) := KW.at 1)
      | (go_at_call 46; (with_reducible refine (S1 _).mono ?_); rintro r w8 ⟨rfl, bb⟩; replace KA := KA.below bb KA.lt; replace KB := KB.below bb KB.lt; replace KH := KH.below bb KH.lt; replace KM := KM.below bb KM.lt; replace KW := KW.below bb KW.lt; replace pr := bel pr bb; clear bb; have x0 : w8.cell? ⟨w.heap.size, 0, none⟩ = some (.float .f64 (a1)) := KA.at 0; have x1 : w8.cell? ⟨w.heap.size, 1, none⟩ = some (.float .f64 (a2)) := KA.at 1; have y0 : w8.cell? ⟨w.heap.size + 1, 0, none⟩ = some (.float .f64 (b1)) := KB.at 0; have y1 : w8.cell? ⟨w.heap.size + 1, 1, none⟩ = some (.float .f64 (b2)) := KB.at 1; have h0 : w8.cell? ⟨w2.heap.size, 0, none⟩ = some (.float .f64 (HL)) := KH.at 0; have h1 : w8.cell? ⟨w2.heap.size, 1, none⟩ = some (.float .f64 (HU)) := KH.at 1; have m0 : w8.cell? ⟨w3.heap.size, 0, none⟩ = some (.float .f64 (R1)) := KM.at 0; have m1 : w8.cell? ⟨w3.heap.size, 1, none⟩ = some (.float .f64 (R2)) := KM.at 1; have k0 : w8.cell? ⟨w6.heap.size, 0, none⟩ = some (.float .f64 (R1)) := KW.at 0; have k1 : w8.cell? ⟨w6.heap.size, 1, none⟩ = some (.float .f64 (R2)) := KW.at 1)
      | (go_at_call 46; (with_reducible refine (S1 _).mono ?_); rintro r w8 ⟨rfl, bb⟩; replace KA := KA.below (below_undrew bb) KA.lt; replace KB := KB.below (below_undrew bb) KB.lt; replace KH := KH.below (below_undrew bb) KH.lt; replace KM := KM.below (below_undrew bb) KM.lt; replace KW := KW.below (below_undrew bb) KW.lt; replace pr := bel pr (below_undrew bb); clear bb; have x0 : w8.cell? ⟨w.heap.size, 0, none⟩ = some (.float .f64 (a1)) := KA.at 0; have x1 : w8.cell? ⟨w.heap.size, 1, none⟩ = some (.float .f64 (a2)) := KA.at 1; have y0 : w8.cell? ⟨w.heap.size + 1, 0, none⟩ = some (.float .f64 (b1)) := KB.at 0; have y1 : w8.cell? ⟨w.heap.size + 1, 1, none⟩ = some (.float .f64 (b2)) := KB.at 1; have h0 : w8.cell? ⟨w2.heap.size, 0, none⟩ = some (.float .f64 (HL)) := KH.at 0; have h1 : w8.cell? ⟨w2.heap.size, 1, none⟩ = some (.float .f64 (HU)) := KH.at 1; have m0 : w8.cell? ⟨w3.heap.size, 0, none⟩ = some (.float .f64 (R1)) := KM.at 0; have m1 : w8.cell? ⟨w3.heap.size, 1, none⟩ = some (.float .f64 (R2)) := KM.at 1; have k0 : w8.cell? ⟨w6.heap.size, 0, none⟩ = some (.float .f64 (R1)) := KW.at 0; have k1 : w8.cell? ⟨w6.heap.size, 1, none⟩ = some (.float .f64 (R2)) := KW.at 1)
      | (go_at_call 46; (with_reducible refine (S2 _).mono ?_); rintro r w9 ⟨rfl, bb⟩; replace KA := KA.below bb KA.lt; replace KB := KB.below bb KB.lt; replace KH := KH.below bb KH.lt; replace KM := KM.below bb KM.lt; replace KW := KW.below bb KW.lt; replace pr := bel pr bb; clear bb; have x0 : w9.cell? ⟨w.heap.size, 0, none⟩ = some (.float .f64 (a1)) := KA.at 0; have x1 : w9.cell? ⟨w.heap.size, 1, none⟩ = some (.float .f64 (a2)) := KA.at 1; have y0 : w9.cell? ⟨w.heap.size + 1, 0, none⟩ = some (.float .f64 (b1)) := KB.at 0; have y1 : w9.cell? ⟨w.heap.size + 1, 1, none⟩ = some (.float .f64 (b2)) := KB.at 1; have h0 : w9.cell? ⟨w2.heap.size, 0, none⟩ = some (.float .f64 (HL)) := KH.at 0; have h1 : w9.cell? ⟨w2.heap.size, 1, none⟩ = some (.float .f64 (HU)) := KH.at 1; have m0 : w9.cell? ⟨w3.heap.size, 0, none⟩ = some (.float .f64 (R1)) := KM.at 0; have m1 : w9.cell? ⟨w3.heap.size, 1, none⟩ = some (.float .f64 (R2)) := KM.at 1; have k0 : w9.cell? ⟨w6.heap.size, 0, none⟩ = some (.float .f64 (R1)) := KW.at 0; have k1 : w9.cell? ⟨w6.heap.size, 1, none⟩ = some (.float .f64 (R2)) := KW.at 1)
      | (go_at_call 46; (with_reducible refine (S2 _).mono ?_); rintro r w9 ⟨rfl, bb⟩; replace KA := KA.below (below_undrew bb) KA.lt; replace KB := KB.below (below_undrew bb) KB.lt; replace KH := KH.below (below_undrew bb) KH.lt; replace KM := KM.below (below_undrew bb) KM.lt; replace KW := KW.below (below_undrew bb) KW.lt; replace pr := bel pr (below_undrew bb); clear bb; have x0 : w9.cell? ⟨w.heap.size, 0, none⟩ = some (.float .f64 (a1)) := KA.at 0; have x1 : w9.cell? ⟨w.heap.size, 1, none⟩ = some (.float .f64 (a2)) := KA.at 1; have y0 : w9.cell? ⟨w.heap.size + 1, 0, none⟩ = some (.float .f64 (b1)) := KB.at 0; have y1 : w9.cell? ⟨w.heap.size + 1, 1, none⟩ = some (.float .f64 (b2)) := KB.at 1; have h0 : w9.cell? ⟨w2.heap.size, 0, none⟩ = some (.float .f64 (HL)) := KH.at 0; have h1 : w9.cell? ⟨w2.heap.size, 1, none⟩ = some (.float .f64 (HU)) := KH.at 1; have m0 : w9.cell? ⟨w3.heap.size, 0, none⟩ = some (.float .f64 (R1)) := KM.at 0; have m1 : w9.cell? ⟨w3.heap.size, 1, none⟩ = some (.float .f64 (R2)) := KM.at 1; have k0 : w9.cell? ⟨w6.heap.size, 0, none⟩ = some (.float .f64 (R1)) := KW.at 0; have k1 : w9.cell? ⟨w6.heap.size, 1, none⟩ = some (.float .f64 (R2)) := KW.at 1)
      | (go_at_call 49; (with_reducible refine (RI _).mono ?_); rintro r w10 ⟨rfl, bb⟩; replace KA := KA.below bb KA.lt; replace KB := KB.below bb KB.lt; replace KH := KH.below bb KH.lt; replace KM := KM.below bb KM.lt; replace KW := KW.below bb KW.lt; replace pr := bel pr bb; clear bb; have x0 : w10.cell? ⟨w.heap.size, 0, none⟩ = some (.float .f64 (a1)) := KA.at 0; have x1 : w10.cell? ⟨w.heap.size, 1, none⟩ = some (.float .f64 (a2)) := KA.at 1; have y0 : w10.cell? ⟨w.heap.size + 1, 0, none⟩ = some (.float .f64 (b1)) := KB.at 0; have y1 : w10.cell? ⟨w.heap.size + 1, 1, none⟩ = some (.float .f64 (b2)) := KB.at 1; have h0 : w10.cell? ⟨w2.heap.size, 0, none⟩ = some (.float .f64 (HL)) := KH.at 0; have h1 : w10.cell? ⟨w2.heap.size, 1, none⟩ = some (.float .f64 (HU)) := KH.at 1; have m0 : w10.cell? ⟨w3.heap.size, 0, none⟩ = some (.float .f64 (R1)) := KM.at 0; have m1 : w10.cell? ⟨w3.heap.size, 1, none⟩ = some (.float .f64 (R2)) := KM.at 1; have k0 : w10.cell? ⟨w6.heap.size, 0, none⟩ = some (.float .f64 (R1)) := KW.at 0; have k1 : w10.cell? ⟨w6.heap.size, 1, none⟩ = some (.float .f64 (R2)) := KW.at 1)
      | (go_at_call 49; (with_reducible refine (RI _).mono ?_); rintro r w10 ⟨rfl, bb⟩; replace KA := KA.below (below_undrew bb) KA.lt; replace KB := KB.below (below_undrew bb) KB.lt; replace KH := KH.below (below_undrew bb) KH.lt; replace KM := KM.below (below_undrew bb) KM.lt; replace KW := KW.below (below_undrew bb) KW.lt; replace pr := bel pr (below_undrew bb); clear bb; have x0 : w10.cell? ⟨w.heap.size, 0, none⟩ = some (.float .f64 (a1)) := KA.at 0; have x1 : w10.cell? ⟨w.heap.size, 1, none⟩ = some (.float .f64 (a2)) := KA.at 1; have y0 : w10.cell? ⟨w.heap.size + 1, 0, none⟩ = some (.float .f64 (b1)) := KB.at 0; have y1 : w10.cell? ⟨w.heap.size + 1, 1, none⟩ = some (.float .f64 (b2)) := KB.at 1; have h0 : w10.cell? ⟨w2.heap.size, 0, none⟩ = some (.float .f64 (HL)) := KH.at 0; have h1 : w10.cell? ⟨w2.heap.size, 1, none⟩ = some (.float .f64 (HU)) := KH.at 1; have m0 : w10.cell? ⟨w3.heap.size, 0, none⟩ = some (.float .f64 (R1)) := KM.at 0; have m1 : w10.cell? ⟨w3.heap.size, 1, none⟩ = some (.float .f64 (R2)) := KM.at 1; have k0 : w10.cell? ⟨w6.heap.size, 0, none⟩ = some (.float .f64 (R1)) := KW.at 0; have k1 : w10.cell? ⟨w6.heap.size, 1, none⟩ = some (.float .f64 (R2)) := KW.at 1)
      | (go_at_call 50; (with_reducible refine (RC _).mono ?_); rintro r w11 ⟨rfl, bb⟩; replace KA := KA.below bb KA.lt; replace KB := KB.below bb KB.lt; replace KH := KH.below bb KH.lt; replace KM := KM.below bb KM.lt; replace KW := KW.below bb KW.lt; replace pr := bel pr bb; clear bb; have x0 : w11.cell? ⟨w.heap.size, 0, none⟩ = some (.float .f64 (a1)) := KA.at 0; have x1 : w11.cell? ⟨w.heap.size, 1, none⟩ = some (.float .f64 (a2)) := KA.at 1; have y0 : w11.cell? ⟨w.heap.size + 1, 0, none⟩ = some (.float .f64 (b1)) := KB.at 0; have y1 : w11.cell? ⟨w.heap.size + 1, 1, none⟩ = some (.float .f64 (b2)) := KB.at 1; have h0 : w11.cell? ⟨w2.heap.size, 0, none⟩ = some (.float .f64 (HL)) := KH.at 0; have h1 : w11.cell? ⟨w2.heap.size, 1, none⟩ = some (.float .f64 (HU)) := KH.at 1; have m0 : w11.cell? ⟨w3.heap.size, 0, none⟩ = some (.float .f64 (R1)) := KM.at 0; have m1 : w11.cell? ⟨w3.heap.size, 1, none⟩ = some (.float .f64 (R2)) := KM.at 1; have k0 : w11.cell? ⟨w6.heap.size, 0, none⟩ = some (.float .f64 (R1)) := KW.at 0; have k1 : w11.cell? ⟨w6.heap.size, 1, none⟩ = some (.float .f64 (R2)) := KW.at 1)
      | (go_at_call 50; (with_reducible refine (RC _).mono ?_); rintro r w11 ⟨rfl, bb⟩; replace KA := KA.below (below_undrew bb) KA.lt; replace KB := KB.below (below_undrew bb) KB.lt; replace KH := KH.below (below_undrew bb) KH.lt; replace KM := KM.below (below_undrew bb) KM.lt; replace KW := KW.below (below_undrew bb) KW.lt; replace pr := bel pr (below_undrew bb); clear bb; have x0 : w11.cell? ⟨w.heap.size, 0, none⟩ = some (.float .f64 (a1)) := KA.at 0; have x1 : w11.cell? ⟨w.heap.size, 1, none⟩ = some (.float .f64 (a2)) := KA.at 1; have y0 : w11.cell? ⟨w.heap.size + 1, 0, none⟩ = some (.float .f64 (b1)) := KB.at 0; have y1 : w11.cell? ⟨w.heap.size + 1, 1, none⟩ = some (.float .f64 (b2)) := KB.at 1; have h0 : w11.cell? ⟨w2.heap.size, 0, none⟩ = some (.float .f64 (HL)) := KH.at 0; have h1 : w11.cell? ⟨w2.heap.size, 1, none⟩ = some (.float .f64 (HU)) := KH.at 1; have m0 : w11.cell? ⟨w3.heap.size, 0, none⟩ = some (.float .f64 (R1)) := KM.at 0; have m1 : w11.cell? ⟨w3.heap.size, 1, none⟩ = some (.float .f64 (R2)) := KM.at 1; have k0 : w11.cell? ⟨w6.heap.size, 0, none⟩ = some (.float .f64 (R1)) := KW.at 0; have k1 : w11.cell? ⟨w6.heap.size, 1, none⟩ = some (.float .f64 (R2)) := KW.at 1)
      | fail)
    all_goals
      go_wp2_with fail
      go_ret
      exact ⟨rfl, pr⟩
end Go.Proofs.Ytlngkonmalallaa

namespace Go

theorem ready_false {md : Region.Mode} {ops : Array Oper} {listed : Array Bool} {i : Nat} (h : i ∈ Region.ready md ops listed) : listed.toList[i]? = some false := by
  unfold Region.ready at h
  have c := (List.mem_filter.1 h).2
  rw [Bool.and_eq_true] at c
  have d := c.1
  cases e : listed.toList[i]? with
  | none => rw [Array.getD_eq_getD_getElem?, ← Array.getElem?_toList, e] at d; simp at d
  | some b => rw [Array.getD_eq_getD_getElem?, ← Array.getElem?_toList, e] at d; simp at d; rw [d]
theorem count_set_true {l : List Bool} {i : Nat} (h : l[i]? = some false) : (l.set i true).count false + 1 = l.count false := by
  induction l generalizing i with
  | nil => simp at h
  | cons b l ih =>
    cases i with
    | zero => simp at h; subst h; simp
    | succ i =>
      simp at h
      have := ih h
      rw [List.set_cons_succ, List.count_cons, List.count_cons]
      omega
/-- A region in any order, by what holds of the state when some of it has come up. -/
theorem any_inv {P : Program} {md : Region.Mode} {ops : Array Oper} {Q : Exit → Act → World → Prop} (Inv : Array Bool → Act → World → Prop)
    (hs : ∀ listed a w i, Inv listed a w → i ∈ Region.ready md ops listed → wpOp P ops Q i (fun a' w' => Inv (listed.setIfInBounds i true) a' w') a w)
    (hd : ∀ listed a w, Inv listed a w → Region.ready md ops listed = [] → Q .normal a w) :
    ∀ (fuel : Nat) (listed : Array Bool) (a : Act) (w : World), listed.toList.count false ≤ fuel → Inv listed a w → wpAnyH P md ops Q (fun _ => True) fuel listed a w := by
  intro fuel
  induction fuel with
  | zero =>
    intro listed a w hc hi
    have e : Region.ready md ops listed = [] := by
      cases c : Region.ready md ops listed with
      | nil => rfl
      | cons i rs =>
        have r := ready_false (md := md) (ops := ops) (listed := listed) (i := i) (by rw [c]; simp)
        have := count_set_true r
        omega
    exact ⟨e, hd _ _ _ hi e⟩
  | succ fuel ih =>
    intro listed a w hc hi
    refine ⟨fun e => hd _ _ _ hi e, fun i hr => wpOp_mono (fun a' w' h => ⟨trivial, ih _ _ _ ?_ h⟩) (hs _ _ _ _ hi hr)⟩
    have := count_set_true (ready_false hr)
    rw [Array.toList_setIfInBounds]
    omega
/-- Nothing may come up: all has come up, if nothing waits for what stands behind it. -/
theorem all_listed {md : Region.Mode} {ops : Array Oper} {listed : Array Bool} (hdep : (List.range ops.size).all (fun i => ((ops[i]?).map (fun o => o.after.all fun e => decide (e.on < i))).getD false) = true) (h : Region.ready md ops listed = []) : ∀ i, i < ops.size → listed.getD i true = true := by
  intro i
  induction i using Nat.strongRecOn with
  | ind i ih =>
    intro hi
    cases c : listed.getD i true with
    | true => rfl
    | false =>
      exfalso
      have ho : ops[i]? = some ops[i] := Array.getElem?_eq_getElem hi
      have d := List.all_eq_true.1 hdep i (List.mem_range.2 hi)
      rw [ho] at d
      simp only [Option.map_some, Option.getD_some] at d
      have m : i ∈ Region.ready md ops listed := by
        unfold Region.ready
        refine List.mem_filter.2 ⟨List.mem_range.2 hi, ?_⟩
        rw [c, ho]
        simp only [Bool.not_false, Bool.true_and, Option.map_some, Option.getD_some]
        rw [Array.all_eq_true] at d ⊢
        intro k hk
        have e := d k hk
        rw [decide_eq_true_iff] at e
        have t := ih _ e (by omega)
        have t2 : listed.getD (ops[i].after[k]).on false = true := by
          rw [Array.getD_eq_getD_getElem?] at t ⊢
          cases x : listed[(ops[i].after[k]).on]? with
          | none =>
            exfalso
            have z : listed.getD i true = false := c
            rw [Array.getD_eq_getD_getElem?] at z
            have : listed[i]? = none := by
              rw [Array.getElem?_eq_none_iff] at x ⊢
              omega
            rw [this] at z
            simp at z
          | some b => rw [x] at t; simpa using t
        rw [t2]; simp
      rw [h] at m
      cases m
end Go

namespace Go.Proofs.Ytlngkonmalallaa
open Go.RowKit Tn

/-- What lo and hi are, behind their region. -/
def LoHi (w : World) (r n m : Nat) (x y : Value) (wc : World) : Prop := ∃ (X Y : Nat) (i5 : Int) (g5 : Bool) (p5 : Option Addr) (l5 c5 : Nat) (q5 : Option Addr) (m5 d5 : Nat) (i6 : Int) (g6 : Bool) (p6 : Option Addr) (l6 c6 : Nat) (q6 : Option Addr) (m6 d6 : Nat),
  x = .pointer (some ⟨X, 0, none⟩) ∧ y = .pointer (some ⟨Y, 0, none⟩) ∧ Blk wc X #[.int .i64 i5, .bool g5, .slice p5 l5 c5, .slice q5 m5 d5] 123 ∧ Blk wc Y #[.int .i64 i6, .bool g6, .slice p6 l6 c6, .slice q6 m6 d6] 123
  ∧ IsE wc (env i5 g5 p5 l5 c5 q5 m5 d5) n ∧ IsE wc (env i6 g6 p6 l6 c6 q6 m6 d6) m ∧ Blk wc r #[.float .f64 0, .float .f64 0] 72 ∧ Below w.heap.size w wc
/-- What holds while the region of lo and hi comes up. -/
structure MA (W x : World) (n m : Nat) (V1 V2 V3 V4 : Value) (D1 D2 : Array Value) (y0 y1 y2 y3 y4 y5 y6 y7 y8 y9 : Bool) (t10 t11 t22 t23 t24 t25 t26 t27 t28 t29 : Value) : Prop where
  bel : Below W.heap.size W x
  l0 : y0 = true → t22 = V1
  l1 : y1 = true → t23 = V3
  s1 : y2 = true → y3 = false → ∃ k, t24 = .slice (some ⟨k, 0, none⟩) 2 2 ∧ Blk x k D1 123
  c1 : y3 = true → IsE x t25 n
  l4 : y4 = true → t26 = V2
  l5 : y5 = true → t27 = V4
  s2 : y6 = true → y7 = false → ∃ k, t28 = .slice (some ⟨k, 0, none⟩) 2 2 ∧ Blk x k D2 123
  c2 : y7 = true → IsE x t29 m
  p1 : y8 = true → ∃ X, t10 = .pointer (some ⟨X, 0, none⟩) ∧ W.heap.size ≤ X ∧ Blk x X #[.int .i64 0, .bool false, .slice none 0 0, .slice none 0 0] 123
  p2 : y9 = true → ∃ Y, t11 = .pointer (some ⟨Y, 0, none⟩) ∧ W.heap.size ≤ Y ∧ Blk x Y #[.int .i64 0, .bool false, .slice none 0 0, .slice none 0 0] 123
  ne : y8 = true → y9 = true → t10 ≠ t11
  d7 : y7 = true → y6 = true
  d6 : y6 = true → y4 = true ∧ y5 = true
theorem MA.grow {W x x' : World} {n m : Nat} {V1 V2 V3 V4 : Value} {D1 D2 : Array Value} {y0 y1 y2 y3 y4 y5 y6 y7 y8 y9 : Bool} {t10 t11 t22 t23 t24 t25 t26 t27 t28 t29 : Value} (h : MA W x n m V1 V2 V3 V4 D1 D2 y0 y1 y2 y3 y4 y5 y6 y7 y8 y9 t10 t11 t22 t23 t24 t25 t26 t27 t28 t29) (b : Below x.heap.size x x') : MA W x' n m V1 V2 V3 V4 D1 D2 y0 y1 y2 y3 y4 y5 y6 y7 y8 y9 t10 t11 t22 t23 t24 t25 t26 t27 t28 t29 where
  bel := bel_keep h.bel b
  l0 := h.l0
  l1 := h.l1
  s1 := fun u v => by obtain ⟨k, e, K⟩ := h.s1 u v; exact ⟨k, e, K.below b K.lt⟩
  c1 := fun u => (h.c1 u).grow b
  l4 := h.l4
  l5 := h.l5
  s2 := fun u v => by obtain ⟨k, e, K⟩ := h.s2 u v; exact ⟨k, e, K.below b K.lt⟩
  c2 := fun u => (h.c2 u).grow b
  p1 := fun u => by obtain ⟨k, e, l, K⟩ := h.p1 u; exact ⟨k, e, l, K.below b K.lt⟩
  p2 := fun u => by obtain ⟨k, e, l, K⟩ := h.p2 u; exact ⟨k, e, l, K.below b K.lt⟩
  ne := h.ne
  d7 := h.d7
  d6 := h.d6
set_option maxRecDepth 100000 in
set_option maxHeartbeats 3200000 in
theorem RMeet_any (a1 a2 b1 b2 : Nat) (F : Four a1 a2 b1 b2) (o1 : okEnd a1 = true) (o2 : okEnd a2 = true) (o3 : okEnd b1 = true) (o4 : okEnd b2 = true) (R1 R2 : Nat) (tt : Bool) (HR : Hid ((key64 (mn a2 b2) < key64 (mx a1 b1) ∧ R1 = 0 ∧ R2 = 0 ∧ tt = false) ∨ (¬ key64 (mn a2 b2) < key64 (mx a1 b1) ∧ R1 = mx a1 b1 ∧ R2 = mn a2 b2 ∧ tt = true))) (w : World) : Calls Try.prog 47 #[spn a1 a2, spn b1 b2] w fun x w' => x = .returned (.tuple #[spn R1 R2, .bool tt]) ∧ Below w.heap.size w w' := by
  have E1 := Ends_any a1 a2 F.h1 F.h2 (okEnd_nan o1) (okEnd_nan o2)
  have E2 := Ends_any b1 b2 F.h3 F.h4 (okEnd_nan o3) (okEnd_nan o4)
  have sf := fun w a n m => run_store_f Try.prog w a .f64 n m
  have KB := (Blk.new (w.alloc (.cells #[.float .f64 a1, .float .f64 a2] 72)) #[.float .f64 b1, .float .f64 b2] 72).alloc (.cells #[.float .f64 0, .float .f64 0] 72)
  have KR := Blk.new ((w.alloc (.cells #[.float .f64 a1, .float .f64 a2] 72)).alloc (.cells #[.float .f64 b1, .float .f64 b2] 72)) #[.float .f64 0, .float .f64 0] 72
  simp only [World.size_alloc] at KB KR
  have pr : Below w.heap.size w (((w.alloc (.cells #[.float .f64 a1, .float .f64 a2] 72)).alloc (.cells #[.float .f64 b1, .float .f64 b2] 72)).alloc (.cells #[.float .f64 0, .float .f64 0] 72)) := (((Below.refl _ _).alloc (Nat.le_refl _) _).alloc (by simp) _).alloc (by simp; omega) _
  go_enter Try.func47, Try.ntmps47
  go_upto_region 3 with (first
    | (go_at_call 89; (with_reducible refine (E1 _).mono ?_); go_must (rintro r w1 ⟨v1, v2, rfl, s1, s2, bb⟩; obtain ⟨i1, g1, p1, l1, c1, q1, m1, d1, rfl⟩ := s1.form; obtain ⟨i2, g2, p2, l2, c2, q2, m2, d2, rfl⟩ := s2.form; replace KB := KB.below bb KB.lt; replace KR := KR.below bb KR.lt; have lt1 := KR.lt; replace pr := bel pr bb; clear bb; have J1 := (Blk.new w1 #[.int .i64 i1, .bool g1, .slice p1 l1 c1, .slice q1 m1 d1] 123).alloc (.cells #[.int .i64 i2, .bool g2, .slice p2 l2 c2, .slice q2 m2 d2] 123); have J2 := Blk.new (w1.alloc (.cells #[.int .i64 i1, .bool g1, .slice p1 l1 c1, .slice q1 m1 d1] 123)) #[.int .i64 i2, .bool g2, .slice p2 l2 c2, .slice q2 m2 d2] 123; simp only [World.size_alloc] at J2; have ba : Below w1.heap.size w1 ((w1.alloc (.cells #[.int .i64 i1, .bool g1, .slice p1 l1 c1, .slice q1 m1 d1] 123)).alloc (.cells #[.int .i64 i2, .bool g2, .slice p2 l2 c2, .slice q2 m2 d2] 123)) := ((Below.refl _ _).alloc (Nat.le_refl _) _).alloc (by simp) _; replace s1 := s1.grow ba; replace s2 := s2.grow ba; replace KB := KB.below ba KB.lt; replace KR := KR.below ba KR.lt; have y0 := KB.at 0; have y1 := KB.at 1; simp only [List.getElem?_toArray, List.getElem?_cons_zero, List.getElem?_cons_succ] at y0 y1; replace pr := bel pr ba; clear ba))
    | (go_at_call 89; (with_reducible refine (E2 _).mono ?_); go_must (rintro r w2 ⟨v3, v4, rfl, s3, s4, bb⟩; obtain ⟨i3, g3, p3, l3, c3, q3, m3, d3, rfl⟩ := s3.form; obtain ⟨i4, g4, p4, l4, c4, q4, m4, d4, rfl⟩ := s4.form; replace s1 := s1.grow bb; replace s2 := s2.grow bb; replace J1 := J1.below bb J1.lt; replace J2 := J2.below bb J2.lt; replace KR := KR.below bb KR.lt; have lt2 := KR.lt; replace pr := bel pr bb; clear bb y0 y1 KB; have J3 := (Blk.new w2 #[.int .i64 i3, .bool g3, .slice p3 l3 c3, .slice q3 m3 d3] 123).alloc (.cells #[.int .i64 i4, .bool g4, .slice p4 l4 c4, .slice q4 m4 d4] 123); have J4 := Blk.new (w2.alloc (.cells #[.int .i64 i3, .bool g3, .slice p3 l3 c3, .slice q3 m3 d3] 123)) #[.int .i64 i4, .bool g4, .slice p4 l4 c4, .slice q4 m4 d4] 123; simp only [World.size_alloc] at J4; have ba : Below w2.heap.size w2 ((w2.alloc (.cells #[.int .i64 i3, .bool g3, .slice p3 l3 c3, .slice q3 m3 d3] 123)).alloc (.cells #[.int .i64 i4, .bool g4, .slice p4 l4 c4, .slice q4 m4 d4] 123)) := ((Below.refl _ _).alloc (Nat.le_refl _) _).alloc (by simp) _; replace s1 := s1.grow ba; replace s2 := s2.grow ba; replace s3 := s3.grow ba; replace s4 := s4.grow ba; replace J1 := J1.below ba J1.lt; replace J2 := J2.below ba J2.lt; replace KR := KR.below ba KR.lt; replace pr := bel pr ba; clear ba; have pb := Below.refl ((w2.alloc (.cells #[.int .i64 i3, .bool g3, .slice p3 l3 c3, .slice q3 m3 d3] 123)).alloc (.cells #[.int .i64 i4, .bool g4, .slice p4 l4 c4, .slice q4 m4 d4] 123)).heap.size ((w2.alloc (.cells #[.int .i64 i3, .bool g3, .slice p3 l3 c3, .slice q3 m3 d3] 123)).alloc (.cells #[.int .i64 i4, .bool g4, .slice p4 l4 c4, .slice q4 m4 d4] 123)); have al0 : ((w2.alloc (.cells #[.int .i64 i3, .bool g3, .slice p3 l3 c3, .slice q3 m3 d3] 123)).alloc (.cells #[.int .i64 i4, .bool g4, .slice p4 l4 c4, .slice q4 m4 d4] 123)).cell? ⟨w1.heap.size, 0, none⟩ = some (.int .i64 i1) := J1.at 0; have al1 : ((w2.alloc (.cells #[.int .i64 i3, .bool g3, .slice p3 l3 c3, .slice q3 m3 d3] 123)).alloc (.cells #[.int .i64 i4, .bool g4, .slice p4 l4 c4, .slice q4 m4 d4] 123)).cell? ⟨w1.heap.size, 1, none⟩ = some (.bool g1) := J1.at 1; have al2 : ((w2.alloc (.cells #[.int .i64 i3, .bool g3, .slice p3 l3 c3, .slice q3 m3 d3] 123)).alloc (.cells #[.int .i64 i4, .bool g4, .slice p4 l4 c4, .slice q4 m4 d4] 123)).cell? ⟨w1.heap.size, 2, none⟩ = some (.slice p1 l1 c1) := J1.at 2; have al3 : ((w2.alloc (.cells #[.int .i64 i3, .bool g3, .slice p3 l3 c3, .slice q3 m3 d3] 123)).alloc (.cells #[.int .i64 i4, .bool g4, .slice p4 l4 c4, .slice q4 m4 d4] 123)).cell? ⟨w1.heap.size, 3, none⟩ = some (.slice q1 m1 d1) := J1.at 3; have ah0 : ((w2.alloc (.cells #[.int .i64 i3, .bool g3, .slice p3 l3 c3, .slice q3 m3 d3] 123)).alloc (.cells #[.int .i64 i4, .bool g4, .slice p4 l4 c4, .slice q4 m4 d4] 123)).cell? ⟨w1.heap.size + 1, 0, none⟩ = some (.int .i64 i2) := J2.at 0; have ah1 : ((w2.alloc (.cells #[.int .i64 i3, .bool g3, .slice p3 l3 c3, .slice q3 m3 d3] 123)).alloc (.cells #[.int .i64 i4, .bool g4, .slice p4 l4 c4, .slice q4 m4 d4] 123)).cell? ⟨w1.heap.size + 1, 1, none⟩ = some (.bool g2) := J2.at 1; have ah2 : ((w2.alloc (.cells #[.int .i64 i3, .bool g3, .slice p3 l3 c3, .slice q3 m3 d3] 123)).alloc (.cells #[.int .i64 i4, .bool g4, .slice p4 l4 c4, .slice q4 m4 d4] 123)).cell? ⟨w1.heap.size + 1, 2, none⟩ = some (.slice p2 l2 c2) := J2.at 2; have ah3 : ((w2.alloc (.cells #[.int .i64 i3, .bool g3, .slice p3 l3 c3, .slice q3 m3 d3] 123)).alloc (.cells #[.int .i64 i4, .bool g4, .slice p4 l4 c4, .slice q4 m4 d4] 123)).cell? ⟨w1.heap.size + 1, 3, none⟩ = some (.slice q2 m2 d2) := J2.at 3; skip))
    | fail)
  generalize (w2.alloc (.cells #[.int .i64 i3, .bool g3, .slice p3 l3 c3, .slice q3 m3 d3] 123)).alloc (.cells #[.int .i64 i4, .bool g4, .slice p4 l4 c4, .slice q4 m4 d4] 123) = W at *
  clear al0 al1 al2 al3 ah0 ah1 ah2 ah3 pb
  go_cut [10, 11] (fun x y wc => LoHi w (w.heap.size + 1 + 1) (mx a1 b1) (mn a2 b2) x y wc)
  case first =>
    rename_i hm hJ
    clear E1 E2 sf
    refine wp_region_held (S := fun _ => True) (by kernel_rfl) (any_inv (fun listed a x => ∃ (y0 y1 y2 y3 y4 y5 y6 y7 y8 y9 : Bool) (t10 t11 t22 t23 t24 t25 t26 t27 t28 t29 : Value), a = ⟨#[spn a1 a2, spn b1 b2, .pointer (some ⟨w.heap.size, 0, none⟩), .pointer (some ⟨w.heap.size + 1, 0, none⟩), .pointer (some ⟨w.heap.size + 1 + 1, 0, none⟩), .bool false, .pointer (some ⟨w1.heap.size, 0, none⟩), .pointer (some ⟨w1.heap.size + 1, 0, none⟩), .pointer (some ⟨w2.heap.size, 0, none⟩), .pointer (some ⟨w2.heap.size + 1, 0, none⟩), t10, t11, .tuple #[env i1 g1 p1 l1 c1 q1 m1 d1, env i2 g2 p2 l2 c2 q2 m2 d2], .agg #[.float .f64 a1, .float .f64 a2], .tuple #[env i1 g1 p1 l1 c1 q1 m1 d1, env i2 g2 p2 l2 c2 q2 m2 d2], env i1 g1 p1 l1 c1 q1 m1 d1, env i2 g2 p2 l2 c2 q2 m2 d2, .tuple #[env i3 g3 p3 l3 c3 q3 m3 d3, env i4 g4 p4 l4 c4 q4 m4 d4], .agg #[.float .f64 b1, .float .f64 b2], .tuple #[env i3 g3 p3 l3 c3 q3 m3 d3, env i4 g4 p4 l4 c4 q4 m4 d4], env i3 g3 p3 l3 c3 q3 m3 d3, env i4 g4 p4 l4 c4 q4 m4 d4, t22, t23, t24, t25, t26, t27, t28, t29, undef, undef, undef, undef, undef, undef, undef, undef], []⟩ ∧ ((listed = #[y0, y1, y2, y3, y4, y5, y6, y7, y8, y9, false, false] ∧ MA W x (mx a1 b1) (mn a2 b2) (env i1 g1 p1 l1 c1 q1 m1 d1) (env i2 g2 p2 l2 c2 q2 m2 d2) (env i3 g3 p3 l3 c3 q3 m3 d3) (env i4 g4 p4 l4 c4 q4 m4 d4) #[.int .i64 i1, .bool g1, .slice p1 l1 c1, .slice q1 m1 d1, .int .i64 i3, .bool g3, .slice p3 l3 c3, .slice q3 m3 d3] #[.int .i64 i2, .bool g2, .slice p2 l2 c2, .slice q2 m2 d2, .int .i64 i4, .bool g4, .slice p4 l4 c4, .slice q4 m4 d4] y0 y1 y2 y3 y4 y5 y6 y7 y8 y9 t10 t11 t22 t23 t24 t25 t26 t27 t28 t29) ∨ (listed = #[true, true, true, true, true, true, true, true, true, true, true, false] ∧ (∃ X Y, t10 = .pointer (some ⟨X, 0, none⟩) ∧ t11 = .pointer (some ⟨Y, 0, none⟩) ∧ X ≠ Y ∧ W.heap.size ≤ X ∧ W.heap.size ≤ Y ∧ Below W.heap.size W x ∧ (∃ i5 g5 p5 l5 c5 q5 m5 d5, t25 = env i5 g5 p5 l5 c5 q5 m5 d5 ∧ Blk x X #[.int .i64 i5, .bool g5, .slice p5 l5 c5, .slice q5 m5 d5] 123) ∧ IsE x t25 (mx a1 b1) ∧ IsE x t29 (mn a2 b2) ∧ Blk x Y #[.int .i64 0, .bool false, .slice none 0 0, .slice none 0 0] 123)) ∨ (listed = #[true, true, true, true, true, true, true, true, true, true, true, true] ∧ (∃ X Y, t10 = .pointer (some ⟨X, 0, none⟩) ∧ t11 = .pointer (some ⟨Y, 0, none⟩) ∧ X ≠ Y ∧ W.heap.size ≤ X ∧ W.heap.size ≤ Y ∧ Below W.heap.size W x ∧ (∃ i5 g5 p5 l5 c5 q5 m5 d5, t25 = env i5 g5 p5 l5 c5 q5 m5 d5 ∧ Blk x X #[.int .i64 i5, .bool g5, .slice p5 l5 c5, .slice q5 m5 d5] 123) ∧ IsE x t25 (mx a1 b1) ∧ IsE x t29 (mn a2 b2) ∧ (∃ i6 g6 p6 l6 c6 q6 m6 d6, t29 = env i6 g6 p6 l6 c6 q6 m6 d6 ∧ Blk x Y #[.int .i64 i6, .bool g6, .slice p6 l6 c6, .slice q6 m6 d6] 123))))) ?_ ?_ _ _ _ _ (by decide) ?_)
    · rintro listed a x i ⟨y0, y1, y2, y3, y4, y5, y6, y7, y8, y9, t10, t11, t22, t23, t24, t25, t26, t27, t28, t29, rfl, h⟩ hi
      have hr : i < 12 := List.mem_range.1 (List.mem_filter.1 hi).1
      have hc := (List.mem_filter.1 hi).2
      rcases h with ⟨rfl, h⟩ | ⟨rfl, h⟩ | ⟨rfl, h⟩
      · rcases (show i = 0 ∨ i = 1 ∨ i = 2 ∨ i = 3 ∨ i = 4 ∨ i = 5 ∨ i = 6 ∨ i = 7 ∨ i = 8 ∨ i = 9 ∨ i = 10 ∨ i = 11 by omega) with rfl | rfl | rfl | rfl | rfl | rfl | rfl | rfl | rfl | rfl | rfl | rfl
        · -- operation 0
          clear hc hi
          have al0 : x.cell? ⟨w1.heap.size, 0, none⟩ = some (.int .i64 i1) := (J1.below h.bel J1.lt).at 0
          have al1 : x.cell? ⟨w1.heap.size, 1, none⟩ = some (.bool g1) := (J1.below h.bel J1.lt).at 1
          have al2 : x.cell? ⟨w1.heap.size, 2, none⟩ = some (.slice p1 l1 c1) := (J1.below h.bel J1.lt).at 2
          have al3 : x.cell? ⟨w1.heap.size, 3, none⟩ = some (.slice q1 m1 d1) := (J1.below h.bel J1.lt).at 3
          refine wpOp_step rfl (fun K hK0 => ?_)
          have hK : Hid _ := hK0
          clear hK0
          rw [if_pos (by rfl)]
          go_wp2_with fail
          exact hK.out _ _ ⟨true, y1, y2, y3, y4, y5, y6, y7, y8, y9, t10, t11, env i1 g1 p1 l1 c1 q1 m1 d1, t23, t24, t25, t26, t27, t28, t29, rfl, Or.inl ⟨rfl, { h with l0 := fun _ => rfl }⟩⟩
        · -- operation 1
          clear hc hi
          have bl0 : x.cell? ⟨w2.heap.size, 0, none⟩ = some (.int .i64 i3) := (J3.below h.bel J3.lt).at 0
          have bl1 : x.cell? ⟨w2.heap.size, 1, none⟩ = some (.bool g3) := (J3.below h.bel J3.lt).at 1
          have bl2 : x.cell? ⟨w2.heap.size, 2, none⟩ = some (.slice p3 l3 c3) := (J3.below h.bel J3.lt).at 2
          have bl3 : x.cell? ⟨w2.heap.size, 3, none⟩ = some (.slice q3 m3 d3) := (J3.below h.bel J3.lt).at 3
          refine wpOp_step rfl (fun K hK0 => ?_)
          have hK : Hid _ := hK0
          clear hK0
          rw [if_pos (by rfl)]
          go_wp2_with fail
          exact hK.out _ _ ⟨y0, true, y2, y3, y4, y5, y6, y7, y8, y9, t10, t11, t22, env i3 g3 p3 l3 c3 q3 m3 d3, t24, t25, t26, t27, t28, t29, rfl, Or.inl ⟨rfl, { h with l1 := fun _ => rfl }⟩⟩
        · -- operation 2
          have e0 : y0 = true := by
            revert hc
            cases y0 <;> simp [Region.binds]
          have e1 : y1 = true := by
            revert hc
            cases y1 <;> simp [Region.binds]
          have r1 := h.l0 e0
          have r2 := h.l1 e1
          subst r1 r2
          clear hc hi
          refine wpOp_step rfl (fun K hK0 => ?_)
          have hK : Hid _ := hK0
          clear hK0
          rw [if_pos (by rfl)]
          go_wp2_with fail
          exact hK.out _ _ ⟨y0, y1, true, y3, y4, y5, y6, y7, y8, y9, t10, t11, env i1 g1 p1 l1 c1 q1 m1 d1, env i3 g3 p3 l3 c3 q3 m3 d3, _, t25, t26, t27, t28, t29, rfl, Or.inl ⟨rfl, { h.grow ((Below.refl _ _).alloc (Nat.le_refl _) _) with s1 := fun _ _ => ⟨_, rfl, Blk.new _ _ _⟩ }⟩⟩
        · -- operation 3
          have e2 : y2 = true := by
            revert hc
            cases y2 <;> simp [Region.binds]
          have e3 : y3 = false := by
            revert hc
            cases y3 <;> simp [Region.binds]
          obtain ⟨k, rfl, KK⟩ := h.s1 e2 e3
          clear hc hi
          refine wpOp_step rfl (fun K hK0 => ?_)
          have hK : Hid _ := hK0
          clear hK0
          rw [if_pos (by rfl)]
          go_wp2_with (first
            | (go_at_call 90; go_must (refine (greatest_any a1 b1 i1 i3 g1 p1 l1 c1 q1 m1 d1 g3 p3 l3 c3 q3 m3 d3 k x F.h1 F.h3 o1 o3 KK (s1.grow h.bel) (s3.grow h.bel)).mono ?_; rintro r x2 ⟨v, rfl, ev, bb⟩))
            | fail)
          exact hK.out _ _ ⟨y0, y1, y2, true, y4, y5, y6, y7, y8, y9, t10, t11, t22, t23, _, v, t26, t27, t28, t29, rfl, Or.inl ⟨rfl, { h.grow bb with c1 := fun _ => ev, s1 := fun _ q => (by cases q) }⟩⟩
        · -- operation 4
          clear hc hi
          have ah0 : x.cell? ⟨w1.heap.size + 1, 0, none⟩ = some (.int .i64 i2) := (J2.below h.bel J2.lt).at 0
          have ah1 : x.cell? ⟨w1.heap.size + 1, 1, none⟩ = some (.bool g2) := (J2.below h.bel J2.lt).at 1
          have ah2 : x.cell? ⟨w1.heap.size + 1, 2, none⟩ = some (.slice p2 l2 c2) := (J2.below h.bel J2.lt).at 2
          have ah3 : x.cell? ⟨w1.heap.size + 1, 3, none⟩ = some (.slice q2 m2 d2) := (J2.below h.bel J2.lt).at 3
          refine wpOp_step rfl (fun K hK0 => ?_)
          have hK : Hid _ := hK0
          clear hK0
          rw [if_pos (by rfl)]
          go_wp2_with fail
          exact hK.out _ _ ⟨y0, y1, y2, y3, true, y5, y6, y7, y8, y9, t10, t11, t22, t23, t24, t25, env i2 g2 p2 l2 c2 q2 m2 d2, t27, t28, t29, rfl, Or.inl ⟨rfl, { h with l4 := fun _ => rfl, d6 := fun q => ⟨rfl, (h.d6 q).2⟩ }⟩⟩
        · -- operation 5
          clear hc hi
          have bh0 : x.cell? ⟨w2.heap.size + 1, 0, none⟩ = some (.int .i64 i4) := (J4.below h.bel J4.lt).at 0
          have bh1 : x.cell? ⟨w2.heap.size + 1, 1, none⟩ = some (.bool g4) := (J4.below h.bel J4.lt).at 1
          have bh2 : x.cell? ⟨w2.heap.size + 1, 2, none⟩ = some (.slice p4 l4 c4) := (J4.below h.bel J4.lt).at 2
          have bh3 : x.cell? ⟨w2.heap.size + 1, 3, none⟩ = some (.slice q4 m4 d4) := (J4.below h.bel J4.lt).at 3
          refine wpOp_step rfl (fun K hK0 => ?_)
          have hK : Hid _ := hK0
          clear hK0
          rw [if_pos (by rfl)]
          go_wp2_with fail
          exact hK.out _ _ ⟨y0, y1, y2, y3, y4, true, y6, y7, y8, y9, t10, t11, t22, t23, t24, t25, t26, env i4 g4 p4 l4 c4 q4 m4 d4, t28, t29, rfl, Or.inl ⟨rfl, { h with l5 := fun _ => rfl, d6 := fun q => ⟨(h.d6 q).1, rfl⟩ }⟩⟩
        · -- operation 6
          have e4 : y4 = true := by
            revert hc
            cases y4 <;> simp [Region.binds]
          have e5 : y5 = true := by
            revert hc
            cases y5 <;> simp [Region.binds]
          have r1 := h.l4 e4
          have r2 := h.l5 e5
          subst r1 r2
          clear hc hi
          refine wpOp_step rfl (fun K hK0 => ?_)
          have hK : Hid _ := hK0
          clear hK0
          rw [if_pos (by rfl)]
          go_wp2_with fail
          exact hK.out _ _ ⟨y0, y1, y2, y3, y4, y5, true, y7, y8, y9, t10, t11, t22, t23, t24, t25, env i2 g2 p2 l2 c2 q2 m2 d2, env i4 g4 p4 l4 c4 q4 m4 d4, _, t29, rfl, Or.inl ⟨rfl, { h.grow ((Below.refl _ _).alloc (Nat.le_refl _) _) with s2 := fun _ _ => ⟨_, rfl, Blk.new _ _ _⟩, d7 := fun _ => rfl, d6 := fun _ => ⟨e4, e5⟩ }⟩⟩
        · -- operation 7
          have e6 : y6 = true := by
            revert hc
            cases y6 <;> simp [Region.binds]
          have e7 : y7 = false := by
            revert hc
            cases y7 <;> simp [Region.binds]
          obtain ⟨k, rfl, KK⟩ := h.s2 e6 e7
          clear hc hi
          refine wpOp_step rfl (fun K hK0 => ?_)
          have hK : Hid _ := hK0
          clear hK0
          rw [if_pos (by rfl)]
          go_wp2_with (first
            | (go_at_call 91; go_must (refine (least_any a2 b2 i2 i4 g2 p2 l2 c2 q2 m2 d2 g4 p4 l4 c4 q4 m4 d4 k x F.h2 F.h4 o2 o4 KK (s2.grow h.bel) (s4.grow h.bel)).mono ?_; rintro r x2 ⟨v, rfl, ev, bb⟩))
            | fail)
          exact hK.out _ _ ⟨y0, y1, y2, y3, y4, y5, y6, true, y8, y9, t10, t11, t22, t23, t24, t25, t26, t27, _, v, rfl, Or.inl ⟨rfl, { h.grow bb with c2 := fun _ => ev, s2 := fun _ q => (by cases q), d7 := fun _ => e6 }⟩⟩
        · -- operation 8
          clear hc hi
          refine wpOp_step rfl (fun K hK0 => ?_)
          have hK : Hid _ := hK0
          clear hK0
          rw [if_pos (by rfl)]
          go_wp2_with fail
          exact hK.out _ _ ⟨y0, y1, y2, y3, y4, y5, y6, y7, true, y9, _, t11, t22, t23, t24, t25, t26, t27, t28, t29, rfl, Or.inl ⟨rfl, { h.grow ((Below.refl _ _).alloc (Nat.le_refl _) _) with p1 := fun _ => ⟨_, rfl, h.bel.size, Blk.new _ _ _⟩, ne := fun _ q => by obtain ⟨Y, e, _, K⟩ := h.p2 q; rw [e]; intro c; cases c; exact absurd K.lt (Nat.lt_irrefl _) }⟩⟩
        · -- operation 9
          clear hc hi
          refine wpOp_step rfl (fun K hK0 => ?_)
          have hK : Hid _ := hK0
          clear hK0
          rw [if_pos (by rfl)]
          go_wp2_with fail
          exact hK.out _ _ ⟨y0, y1, y2, y3, y4, y5, y6, y7, y8, true, t10, _, t22, t23, t24, t25, t26, t27, t28, t29, rfl, Or.inl ⟨rfl, { h.grow ((Below.refl _ _).alloc (Nat.le_refl _) _) with p2 := fun _ => ⟨_, rfl, h.bel.size, Blk.new _ _ _⟩, ne := fun q _ => by obtain ⟨Y, e, _, K⟩ := h.p1 q; rw [e]; intro c; cases c; exact absurd K.lt (Nat.lt_irrefl _) }⟩⟩
        · -- operation 10
          have e3 : y3 = true := by
            revert hc
            cases y3 <;> simp [Region.binds]
          have e7 : y7 = true := by
            revert hc
            cases y7 <;> simp [Region.binds]
          have e8 : y8 = true := by
            revert hc
            cases y8 <;> simp [Region.binds]
          have e9 : y9 = true := by
            revert hc
            cases y9 <;> simp [Region.binds]
          have e0 : y0 = true := by
            revert hc
            cases y0 <;> simp [Region.binds]
          have e1 : y1 = true := by
            revert hc
            cases y1 <;> simp [Region.binds]
          have e2 : y2 = true := by
            revert hc
            cases y2 <;> simp [Region.binds]
          have e6 := h.d7 e7
          have e45 := h.d6 e6
          have e4 := e45.1
          have e5 := e45.2
          clear e45
          have I5 := h.c1 e3
          have I6 := h.c2 e7
          obtain ⟨X, rfl, lX, KX⟩ := h.p1 e8
          obtain ⟨Y, rfl, lY, KY⟩ := h.p2 e9
          have ne : X ≠ Y := fun c => h.ne e8 e9 (by rw [c])
          have bl := h.bel
          obtain ⟨i5, g5, p5, l5, c5, q5, m5, d5, rfl⟩ := I5.form
          clear h hc hi
          subst e0 e1 e2 e3 e4 e5 e6 e7 e8 e9
          have xx0 : x.cell? ⟨X, 0, none⟩ = some (.int .i64 0) := KX.at 0
          have xxf0 := KX.free 0
          have xx1 : x.cell? ⟨X, 1, none⟩ = some (.bool false) := KX.at 1
          have xxf1 := KX.free 1
          have xx2 : x.cell? ⟨X, 2, none⟩ = some (.slice none 0 0) := KX.at 2
          have xxf2 := KX.free 2
          have xx3 : x.cell? ⟨X, 3, none⟩ = some (.slice none 0 0) := KX.at 3
          have xxf3 := KX.free 3
          refine wpOp_step rfl (fun K hK0 => ?_)
          have hK : Hid _ := hK0
          clear hK0
          rw [if_pos (by rfl)]
          go_wp2_with fail
          exact hK.out _ _ ⟨true, true, true, true, true, true, true, true, true, true, _, _, t22, t23, t24, env i5 g5 p5 l5 c5 q5 m5 d5, t26, t27, t28, t29, rfl, Or.inr (Or.inl ⟨rfl, X, Y, rfl, rfl, ne, lX, lY, st4_bel bl lX, ⟨i5, g5, p5, l5, c5, q5, m5, d5, rfl, st4_blk KX⟩, st4_e KX I5, st4_e KX I6, st4_oth KY ne.symm⟩)⟩
        · -- operation 11
          simp [Region.binds] at hc
      · rcases (show i = 0 ∨ i = 1 ∨ i = 2 ∨ i = 3 ∨ i = 4 ∨ i = 5 ∨ i = 6 ∨ i = 7 ∨ i = 8 ∨ i = 9 ∨ i = 10 ∨ i = 11 by omega) with rfl | rfl | rfl | rfl | rfl | rfl | rfl | rfl | rfl | rfl | rfl | rfl
        · simp at hc
        · simp at hc
        · simp at hc
        · simp at hc
        · simp at hc
        · simp at hc
        · simp at hc
        · simp at hc
        · simp at hc
        · simp at hc
        · simp at hc
        · -- operation 11
          obtain ⟨X, Y, rfl, rfl, ne, lX, lY, bl, ⟨i5, g5, p5, l5, c5, q5, m5, d5, rfl, KX⟩, I5, I6, KY⟩ := h
          obtain ⟨i6, g6, p6, l6, c6, q6, m6, d6, rfl⟩ := I6.form
          clear hc hi
          have yy0 : x.cell? ⟨Y, 0, none⟩ = some (.int .i64 0) := KY.at 0
          have yyf0 := KY.free 0
          have yy1 : x.cell? ⟨Y, 1, none⟩ = some (.bool false) := KY.at 1
          have yyf1 := KY.free 1
          have yy2 : x.cell? ⟨Y, 2, none⟩ = some (.slice none 0 0) := KY.at 2
          have yyf2 := KY.free 2
          have yy3 : x.cell? ⟨Y, 3, none⟩ = some (.slice none 0 0) := KY.at 3
          have yyf3 := KY.free 3
          refine wpOp_step rfl (fun K hK0 => ?_)
          have hK : Hid _ := hK0
          clear hK0
          rw [if_pos (by rfl)]
          go_wp2_with fail
          exact hK.out _ _ ⟨true, true, true, true, true, true, true, true, true, true, _, _, t22, t23, t24, env i5 g5 p5 l5 c5 q5 m5 d5, t26, t27, t28, env i6 g6 p6 l6 c6 q6 m6 d6, rfl, Or.inr (Or.inr ⟨rfl, X, Y, rfl, rfl, ne, lX, lY, st4_bel bl lY, ⟨i5, g5, p5, l5, c5, q5, m5, d5, rfl, st4_oth KX ne⟩, st4_e KY I5, st4_e KY I6, ⟨i6, g6, p6, l6, c6, q6, m6, d6, rfl, st4_blk KY⟩⟩)⟩
      · rcases (show i = 0 ∨ i = 1 ∨ i = 2 ∨ i = 3 ∨ i = 4 ∨ i = 5 ∨ i = 6 ∨ i = 7 ∨ i = 8 ∨ i = 9 ∨ i = 10 ∨ i = 11 by omega) with rfl | rfl | rfl | rfl | rfl | rfl | rfl | rfl | rfl | rfl | rfl | rfl <;> simp at hc
    · rintro listed a x ⟨y0, y1, y2, y3, y4, y5, y6, y7, y8, y9, t10, t11, t22, t23, t24, t25, t26, t27, t28, t29, rfl, h⟩ hn
      have al := all_listed (by decide +kernel) hn
      rcases h with ⟨rfl, h⟩ | ⟨rfl, h⟩ | ⟨rfl, h⟩
      · have z := al 10 (by decide)
        simp at z
      · have z := al 11 (by decide)
        simp at z
      · obtain ⟨X, Y, rfl, rfl, ne, lX, lY, bl, ⟨i5, g5, p5, l5, c5, q5, m5, d5, rfl, KX⟩, I5, I6, ⟨i6, g6, p6, l6, c6, q6, m6, d6, rfl, KY⟩⟩ := h
        refine hJ _ _ ?_
        go_meet
        case rel => exact ⟨X, Y, i5, g5, p5, l5, c5, q5, m5, d5, i6, g6, p6, l6, c6, q6, m6, d6, rfl, rfl, KX, KY, I5, I6, KR.below bl KR.lt, bel pr bl⟩
    · exact ⟨false, false, false, false, false, false, false, false, false, false, undef, undef, undef, undef, undef, undef, undef, undef, undef, undef, rfl, Or.inl ⟨rfl, { bel := (Below.refl _ _).drew, l0 := (by intro q; cases q), l1 := (by intro q; cases q), s1 := (by intro q; cases q), c1 := (by intro q; cases q), l4 := (by intro q; cases q), l5 := (by intro q; cases q), s2 := (by intro q; cases q), c2 := (by intro q; cases q), p1 := (by intro q; cases q), p2 := (by intro q; cases q), ne := (by intro q; cases q), d7 := (by intro q; cases q), d6 := (by intro q; cases q) }⟩⟩
  case rest =>
    clear E1 E2 J1 J2 J3 J4 KR pr s1 s2 s3 s4
    obtain ⟨X, Y, i5, g5, p5, l5, c5, q5, m5, d5, i6, g6, p6, l6, c6, q6, m6, d6, rfl, rfl, KX, KY, e5, e6, KR, pr⟩ := hcut
    obtain ⟨C1, hC1⟩ : ∃ c, c = L.cmp3 (key64 (mx a1 b1)) (key64 (mn a2 b2)) := ⟨_, rfl⟩
    have HC1 : Hid (C1 = L.cmp3 (key64 (mx a1 b1)) (key64 (mn a2 b2))) := hC1
    have kC1 : decide (C1 > 0) = decide (key64 (mn a2 b2) < key64 (mx a1 b1)) := by rw [hC1]; unfold L.cmp3; rw [Bool.eq_iff_iff, decide_eq_true_iff, decide_eq_true_iff]; split <;> (try split) <;> omega
    clear hC1
    have D : ∀ w', Below wc.heap.size wc w' → Calls Try.prog 92 #[env i5 g5 p5 l5 c5 q5 m5 d5, env i6 g6 p6 l6 c6 q6 m6 d6] w' fun x w'' => x = .returned (.int .i64 C1) ∧ Below w'.heap.size w' w'' := fun w' b => by rw [HC1.out]; exact ECmp_any _ _ _ _ (mx_lt F.h1 F.h3) (mn_lt F.h2 F.h4) (okEnd_nan (mx_ok o1 o3)) (okEnd_nan (mn_ok o2 o4)) w' (e5.grow b) (e6.grow b)
    have T : ∀ w', Below wc.heap.size wc w' → Calls Try.prog 93 #[env i5 g5 p5 l5 c5 q5 m5 d5, env i6 g6 p6 l6 c6 q6 m6 d6] w' fun x w'' => x = .returned (spn (mx a1 b1) (mn a2 b2)) ∧ Below w'.heap.size w' w'' := fun w' b => tight_any _ _ _ _ (mx_lt F.h1 F.h3) (mn_lt F.h2 F.h4) (mx_ok o1 o3) (mn_ok o2 o4) w' (e5.grow b) (e6.grow b)
    have pb := Below.refl wc.heap.size wc
    have x0 : wc.cell? ⟨X, 0, none⟩ = some (.int .i64 i5) := KX.at 0
    have x1 : wc.cell? ⟨X, 1, none⟩ = some (.bool g5) := KX.at 1
    have x2 : wc.cell? ⟨X, 2, none⟩ = some (.slice p5 l5 c5) := KX.at 2
    have x3 : wc.cell? ⟨X, 3, none⟩ = some (.slice q5 m5 d5) := KX.at 3
    have y0 : wc.cell? ⟨Y, 0, none⟩ = some (.int .i64 i6) := KY.at 0
    have y1 : wc.cell? ⟨Y, 1, none⟩ = some (.bool g6) := KY.at 1
    have y2 : wc.cell? ⟨Y, 2, none⟩ = some (.slice p6 l6 c6) := KY.at 2
    have y3 : wc.cell? ⟨Y, 3, none⟩ = some (.slice q6 m6 d6) := KY.at 3
    have r0 : wc.cell? ⟨w.heap.size + 1 + 1, 0, none⟩ = some (.float .f64 0) := KR.at 0; have f0 := KR.free 0
    have r1 : wc.cell? ⟨w.heap.size + 1 + 1, 1, none⟩ = some (.float .f64 0) := KR.at 1; have f1 := KR.free 1
    rcases HR.out with ⟨g, rfl, rfl, rfl⟩ | ⟨g, rfl, rfl, rfl⟩
    · rw [decide_eq_true (show key64 (mn a2 b2) < key64 (mx a1 b1) by omega)] at kC1
      clear g HR
      go_wp2_with (first
        | (go_at_call 92; (with_reducible refine (D _ pb).mono ?_); rintro r w8 ⟨rfl, bb⟩; replace KX := KX.below bb KX.lt; replace KY := KY.below bb KY.lt; replace KR := KR.below bb KR.lt; replace pr := bel pr bb; replace pb := bel pb bb; clear bb; have x0 : w8.cell? ⟨X, 0, none⟩ = some (.int .i64 i5) := KX.at 0; have x1 : w8.cell? ⟨X, 1, none⟩ = some (.bool g5) := KX.at 1; have x2 : w8.cell? ⟨X, 2, none⟩ = some (.slice p5 l5 c5) := KX.at 2; have x3 : w8.cell? ⟨X, 3, none⟩ = some (.slice q5 m5 d5) := KX.at 3; have y0 : w8.cell? ⟨Y, 0, none⟩ = some (.int .i64 i6) := KY.at 0; have y1 : w8.cell? ⟨Y, 1, none⟩ = some (.bool g6) := KY.at 1; have y2 : w8.cell? ⟨Y, 2, none⟩ = some (.slice p6 l6 c6) := KY.at 2; have y3 : w8.cell? ⟨Y, 3, none⟩ = some (.slice q6 m6 d6) := KY.at 3; have r0 : w8.cell? ⟨w.heap.size + 1 + 1, 0, none⟩ = some (.float .f64 0) := KR.at 0; have f0 := KR.free 0; have r1 : w8.cell? ⟨w.heap.size + 1 + 1, 1, none⟩ = some (.float .f64 0) := KR.at 1; have f1 := KR.free 1)
        | (go_at_call 92; (with_reducible refine (D _ pb.drew).mono ?_); rintro r w8 ⟨rfl, bb⟩; replace KX := KX.below (below_undrew bb) KX.lt; replace KY := KY.below (below_undrew bb) KY.lt; replace KR := KR.below (below_undrew bb) KR.lt; replace pr := bel pr (below_undrew bb); replace pb := bel pb (below_undrew bb); clear bb; have x0 : w8.cell? ⟨X, 0, none⟩ = some (.int .i64 i5) := KX.at 0; have x1 : w8.cell? ⟨X, 1, none⟩ = some (.bool g5) := KX.at 1; have x2 : w8.cell? ⟨X, 2, none⟩ = some (.slice p5 l5 c5) := KX.at 2; have x3 : w8.cell? ⟨X, 3, none⟩ = some (.slice q5 m5 d5) := KX.at 3; have y0 : w8.cell? ⟨Y, 0, none⟩ = some (.int .i64 i6) := KY.at 0; have y1 : w8.cell? ⟨Y, 1, none⟩ = some (.bool g6) := KY.at 1; have y2 : w8.cell? ⟨Y, 2, none⟩ = some (.slice p6 l6 c6) := KY.at 2; have y3 : w8.cell? ⟨Y, 3, none⟩ = some (.slice q6 m6 d6) := KY.at 3; have r0 : w8.cell? ⟨w.heap.size + 1 + 1, 0, none⟩ = some (.float .f64 0) := KR.at 0; have f0 := KR.free 0; have r1 : w8.cell? ⟨w.heap.size + 1 + 1, 1, none⟩ = some (.float .f64 0) := KR.at 1; have f1 := KR.free 1)
        | fail)
      have ZZ : Blk ((w8.setCell ⟨w.heap.size + 1 + 1, 0, none⟩ (.float .f64 0)).setCell ⟨w.heap.size + 1 + 1, 1, none⟩ (.float .f64 0)) (w.heap.size + 1 + 1) #[.float .f64 0, .float .f64 0] 72 := kset (kset KR)
      have F0 := ZZ.at 0
      have F1 := ZZ.at 1
      simp only [List.getElem?_toArray, List.getElem?_cons_zero, List.getElem?_cons_succ] at F0 F1
      exact bodyPost_ret (v := .tuple #[spn 0 0, .bool false]) (by simp [results, Try.results47, go_sem, F0, F1]) rfl ⟨rfl, pset (pset pr (by omega)) (by omega)⟩
    · rw [decide_eq_false (show ¬ key64 (mn a2 b2) < key64 (mx a1 b1) by omega)] at kC1
      clear g HR
      go_wp2_with (first
        | (go_at_call 92; (with_reducible refine (D _ pb).mono ?_); rintro r w8 ⟨rfl, bb⟩; replace KX := KX.below bb KX.lt; replace KY := KY.below bb KY.lt; replace KR := KR.below bb KR.lt; replace pr := bel pr bb; replace pb := bel pb bb; clear bb; have x0 : w8.cell? ⟨X, 0, none⟩ = some (.int .i64 i5) := KX.at 0; have x1 : w8.cell? ⟨X, 1, none⟩ = some (.bool g5) := KX.at 1; have x2 : w8.cell? ⟨X, 2, none⟩ = some (.slice p5 l5 c5) := KX.at 2; have x3 : w8.cell? ⟨X, 3, none⟩ = some (.slice q5 m5 d5) := KX.at 3; have y0 : w8.cell? ⟨Y, 0, none⟩ = some (.int .i64 i6) := KY.at 0; have y1 : w8.cell? ⟨Y, 1, none⟩ = some (.bool g6) := KY.at 1; have y2 : w8.cell? ⟨Y, 2, none⟩ = some (.slice p6 l6 c6) := KY.at 2; have y3 : w8.cell? ⟨Y, 3, none⟩ = some (.slice q6 m6 d6) := KY.at 3; have r0 : w8.cell? ⟨w.heap.size + 1 + 1, 0, none⟩ = some (.float .f64 0) := KR.at 0; have f0 := KR.free 0; have r1 : w8.cell? ⟨w.heap.size + 1 + 1, 1, none⟩ = some (.float .f64 0) := KR.at 1; have f1 := KR.free 1)
        | (go_at_call 92; (with_reducible refine (D _ pb.drew).mono ?_); rintro r w8 ⟨rfl, bb⟩; replace KX := KX.below (below_undrew bb) KX.lt; replace KY := KY.below (below_undrew bb) KY.lt; replace KR := KR.below (below_undrew bb) KR.lt; replace pr := bel pr (below_undrew bb); replace pb := bel pb (below_undrew bb); clear bb; have x0 : w8.cell? ⟨X, 0, none⟩ = some (.int .i64 i5) := KX.at 0; have x1 : w8.cell? ⟨X, 1, none⟩ = some (.bool g5) := KX.at 1; have x2 : w8.cell? ⟨X, 2, none⟩ = some (.slice p5 l5 c5) := KX.at 2; have x3 : w8.cell? ⟨X, 3, none⟩ = some (.slice q5 m5 d5) := KX.at 3; have y0 : w8.cell? ⟨Y, 0, none⟩ = some (.int .i64 i6) := KY.at 0; have y1 : w8.cell? ⟨Y, 1, none⟩ = some (.bool g6) := KY.at 1; have y2 : w8.cell? ⟨Y, 2, none⟩ = some (.slice p6 l6 c6) := KY.at 2; have y3 : w8.cell? ⟨Y, 3, none⟩ = some (.slice q6 m6 d6) := KY.at 3; have r0 : w8.cell? ⟨w.heap.size + 1 + 1, 0, none⟩ = some (.float .f64 0) := KR.at 0; have f0 := KR.free 0; have r1 : w8.cell? ⟨w.heap.size + 1 + 1, 1, none⟩ = some (.float .f64 0) := KR.at 1; have f1 := KR.free 1)
        | (go_at_call 93; (with_reducible refine (T _ pb).mono ?_); rintro r w9 ⟨rfl, bb⟩; replace KX := KX.below bb KX.lt; replace KY := KY.below bb KY.lt; replace KR := KR.below bb KR.lt; replace pr := bel pr bb; replace pb := bel pb bb; clear bb; have x0 : w9.cell? ⟨X, 0, none⟩ = some (.int .i64 i5) := KX.at 0; have x1 : w9.cell? ⟨X, 1, none⟩ = some (.bool g5) := KX.at 1; have x2 : w9.cell? ⟨X, 2, none⟩ = some (.slice p5 l5 c5) := KX.at 2; have x3 : w9.cell? ⟨X, 3, none⟩ = some (.slice q5 m5 d5) := KX.at 3; have y0 : w9.cell? ⟨Y, 0, none⟩ = some (.int .i64 i6) := KY.at 0; have y1 : w9.cell? ⟨Y, 1, none⟩ = some (.bool g6) := KY.at 1; have y2 : w9.cell? ⟨Y, 2, none⟩ = some (.slice p6 l6 c6) := KY.at 2; have y3 : w9.cell? ⟨Y, 3, none⟩ = some (.slice q6 m6 d6) := KY.at 3; have r0 : w9.cell? ⟨w.heap.size + 1 + 1, 0, none⟩ = some (.float .f64 0) := KR.at 0; have f0 := KR.free 0; have r1 : w9.cell? ⟨w.heap.size + 1 + 1, 1, none⟩ = some (.float .f64 0) := KR.at 1; have f1 := KR.free 1)
        | (go_at_call 93; (with_reducible refine (T _ pb.drew).mono ?_); rintro r w9 ⟨rfl, bb⟩; replace KX := KX.below (below_undrew bb) KX.lt; replace KY := KY.below (below_undrew bb) KY.lt; replace KR := KR.below (below_undrew bb) KR.lt; replace pr := bel pr (below_undrew bb); replace pb := bel pb (below_undrew bb); clear bb; have x0 : w9.cell? ⟨X, 0, none⟩ = some (.int .i64 i5) := KX.at 0; have x1 : w9.cell? ⟨X, 1, none⟩ = some (.bool g5) := KX.at 1; have x2 : w9.cell? ⟨X, 2, none⟩ = some (.slice p5 l5 c5) := KX.at 2; have x3 : w9.cell? ⟨X, 3, none⟩ = some (.slice q5 m5 d5) := KX.at 3; have y0 : w9.cell? ⟨Y, 0, none⟩ = some (.int .i64 i6) := KY.at 0; have y1 : w9.cell? ⟨Y, 1, none⟩ = some (.bool g6) := KY.at 1; have y2 : w9.cell? ⟨Y, 2, none⟩ = some (.slice p6 l6 c6) := KY.at 2; have y3 : w9.cell? ⟨Y, 3, none⟩ = some (.slice q6 m6 d6) := KY.at 3; have r0 : w9.cell? ⟨w.heap.size + 1 + 1, 0, none⟩ = some (.float .f64 0) := KR.at 0; have f0 := KR.free 0; have r1 : w9.cell? ⟨w.heap.size + 1 + 1, 1, none⟩ = some (.float .f64 0) := KR.at 1; have f1 := KR.free 1)
        | fail)
      have ZZ : Blk ((w9.setCell ⟨w.heap.size + 1 + 1, 0, none⟩ (.float .f64 (mx a1 b1))).setCell ⟨w.heap.size + 1 + 1, 1, none⟩ (.float .f64 (mn a2 b2))) (w.heap.size + 1 + 1) #[.float .f64 (mx a1 b1), .float .f64 (mn a2 b2)] 72 := kset (kset KR)
      have F0 := ZZ.at 0
      have F1 := ZZ.at 1
      simp only [List.getElem?_toArray, List.getElem?_cons_zero, List.getElem?_cons_succ] at F0 F1
      exact bodyPost_ret (v := .tuple #[spn (mx a1 b1) (mn a2 b2), .bool true]) (by simp [results, Try.results47, go_sem, F0, F1]) rfl ⟨rfl, pset (pset pr (by omega)) (by omega)⟩
end Go.Proofs.Ytlngkonmalallaa

namespace Go.Proofs.Ytlngkonmalallaa
open Go.RowKit Tn

/-- Cmp of two right spans. -/
theorem SCmp_ok (a1 a2 b1 b2 : Nat) (F : Four a1 a2 b1 b2) (h : (okSp a1 a2 && okSp b1 b2) = true) (w : World) : Calls Try.prog 45 #[spn a1 a2, spn b1 b2] w fun x w' => x = .returned (.tuple #[.int .i64 (if decide (key64 a2 < key64 b1) = true then -1 else if decide (key64 b2 < key64 a1) = true then 1 else 0), .int .i64 0]) ∧ Below w.heap.size w w' := by
  by_cases g1 : key64 a2 < key64 b1
  · rw [decide_eq_true g1, if_pos rfl]
    exact SCmp_lt a1 a2 b1 b2 F h g1 w
  · rw [decide_eq_false g1, if_neg (by simp)]
    by_cases g2 : key64 b2 < key64 a1
    · rw [decide_eq_true g2, if_pos rfl]
      exact SCmp_gt a1 a2 b1 b2 F h ⟨g1, g2⟩ w
    · rw [decide_eq_false g2, if_neg (by simp)]
      exact SCmp_eq a1 a2 b1 b2 F h ⟨g1, g2⟩ w
/-- SpanSets of any two spans. -/
theorem sets_any (a1 a2 b1 b2 : Nat) (F : Four a1 a2 b1 b2) (w : World) : Calls Try.prog 7 #[spn a1 a2, spn b1 b2] w fun x w' => x = .returned (.bool true) ∧ Below w.heap.size w w' := by
  cases h : (okSp a1 a2 && okSp b1 b2)
  · exact sets_wrong a1 a2 b1 b2 F h w
  · have W := wrong_any a1 a2 b1 b2 F
    simp only [h, if_true] at W
    have h2 := h
    rw [Bool.and_eq_true] at h2
    obtain ⟨o1, o2, -⟩ := okSp_ends h2.1
    obtain ⟨o3, o4, -⟩ := okSp_ends h2.2
    by_cases g : key64 (mn a2 b2) < key64 (mx a1 b1)
    · exact sets_ok a1 a2 b1 b2 (mn a1 b1) (mx a2 b2) 0 0 7 _ false _ (Or.inr ⟨rfl, rfl⟩) W (Hull_ok a1 a2 b1 b2 F h) (Meet_none a1 a2 b1 b2 F h g) (Within_ok a1 a2 b1 b2 F h) (SCmp_ok a1 a2 b1 b2 F h)
        (RMeet_any a1 a2 b1 b2 F o1 o2 o3 o4 0 0 false (Or.inl ⟨g, rfl, rfl, rfl⟩)) (RHull_any a1 a2 b1 b2 F o1 o2 o3 o4) (RWithin_any a1 a2 b1 b2 F o1 o2 o3 o4) (ROrd_any a1 a2 b1 b2 F o1 o2 o3 o4) (is_same _ _) (is_err 0 0 7 (by decide)) w
    · exact sets_ok a1 a2 b1 b2 (mn a1 b1) (mx a2 b2) (mx a1 b1) (mn a2 b2) 0 _ true _ (Or.inl ⟨rfl, rfl⟩) W (Hull_ok a1 a2 b1 b2 F h) (Meet_ok a1 a2 b1 b2 F h g) (Within_ok a1 a2 b1 b2 F h) (SCmp_ok a1 a2 b1 b2 F h)
        (RMeet_any a1 a2 b1 b2 F o1 o2 o3 o4 _ _ true (Or.inr ⟨g, rfl, rfl, rfl⟩)) (RHull_any a1 a2 b1 b2 F o1 o2 o3 o4) (RWithin_any a1 a2 b1 b2 F o1 o2 o3 o4) (ROrd_any a1 a2 b1 b2 F o1 o2 o3 o4) (is_same _ _) (is_same _ _) w
end Go.Proofs.Ytlngkonmalallaa
