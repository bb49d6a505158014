import Derived.Test.YtjgljcifnklmeaaFl11
namespace Go.Proofs.Ytjgljcifnklmeaa
open Go.RowKit Tn

theorem spl_one : splW 4607182418800017408 = (2, false, 4503599627370496, -52) := by simp [splW, fdW, frW, sgW]
set_option maxRecDepth 100000 in
set_option maxHeartbeats 3200000 in
theorem law_walk (b c : Nat) (hb : b < 18446744073709551616) (hc : c < 4294967296) (k : Int) (g : Bool) (m e : Int) (h0 : 0 ≤ m) (h1 : m < 18446744073709551616)
    (j1 j2 r1 r2 : Nat) (q1 : joiW (k, g, m, e) = ((j1 : Int), (r1 : Int))) (q2 : joiS (k, g, m, e) = ((j2 : Int), (r2 : Int))) (hj2 : j2 < 4294967296) (w : World) :
    Calls Try.prog 3 #[.int .u64 b, .int .u32 c, prt k g m e] w fun x w' => x = .returned (.bool true) ∧ Below w.heap.size w w' := by
  have S1 := FSplit64 b hb
  have S2 := Split_w b hb
  have S3 := FSplit32 c hc
  have S4 := Split_s c (by omega)
  have S5 := FSplit64 4607182418800017408 (by decide)
  rw [spl_one] at S5
  generalize splW b = a1 at S1 S2
  generalize splS c = a2 at S3 S4
  obtain ⟨ka, ga, ma, ea⟩ := a1
  obtain ⟨kb, gb, mb, eb⟩ := a2
  have J1 := FJoin64 k g m e j1 r1 q1 h0 h1
  have J2 := FJoin32 k g m e j2 r2 q2 hj2 h0 h1
  have J3 := Join_w (k, g, m, e) h0 h1
  have J4 := Join_s (k, g, m, e) h0 h1
  rw [q1] at J3
  rw [q2] at J4
  have I1 := is64_yes j1
  have I2 := is32_yes j2 hj2
  have hf1 := f64frombits b
  have hf2 := f32frombits c
  have hw : IntKind.u64.wrap (c : Int) = c := wu64 _ (by omega) (by omega)
  clear q1 q2 hj2
  go_enter Try.func3, Try.ntmps3
  have K1 := Blk.new w #[.int .i64 k, .bool g, .int .u64 m, .int .i64 e] 25
  have pr : Below w.heap.size w (w.alloc (.cells #[.int .i64 k, .bool g, .int .u64 m, .int .i64 e] 25)) := (Below.refl _ _).alloc (Nat.le_refl _) _
  go_wp2_with (first
    | (go_at_call 7; refine (names_any _).mono ?_; rintro x w1 ⟨rfl, rfl⟩)
    | (go_at_call 8; (with_reducible refine (S1 _).mono ?_); rintro x w1 ⟨rfl, b1⟩; replace K1 := K1.below b1 K1.lt; replace pr := bel pr b1; clear b1; have c0 : w1.cell? ⟨w.heap.size, 0, none⟩ = some (.int .i64 k) := K1.at 0; have c1 : w1.cell? ⟨w.heap.size, 1, none⟩ = some (.bool g) := K1.at 1; have c2 : w1.cell? ⟨w.heap.size, 2, none⟩ = some (.int .u64 m) := K1.at 2; have c3 : w1.cell? ⟨w.heap.size, 3, none⟩ = some (.int .i64 e) := K1.at 3)
    | (go_at_call 10; (with_reducible refine (Wide_any _).mono ?_); rintro x w1 ⟨rfl, b1⟩; replace K1 := K1.below b1 K1.lt; replace pr := bel pr b1; clear b1; have c0 : w1.cell? ⟨w.heap.size, 0, none⟩ = some (.int .i64 k) := K1.at 0; have c1 : w1.cell? ⟨w.heap.size, 1, none⟩ = some (.bool g) := K1.at 1; have c2 : w1.cell? ⟨w.heap.size, 2, none⟩ = some (.int .u64 m) := K1.at 2; have c3 : w1.cell? ⟨w.heap.size, 3, none⟩ = some (.int .i64 e) := K1.at 3)
    | (go_at_call 11; (with_reducible refine (S2 _).mono ?_); rintro x w1 ⟨rfl, b1⟩; replace K1 := K1.below b1 K1.lt; replace pr := bel pr b1; clear b1; have c0 : w1.cell? ⟨w.heap.size, 0, none⟩ = some (.int .i64 k) := K1.at 0; have c1 : w1.cell? ⟨w.heap.size, 1, none⟩ = some (.bool g) := K1.at 1; have c2 : w1.cell? ⟨w.heap.size, 2, none⟩ = some (.int .u64 m) := K1.at 2; have c3 : w1.cell? ⟨w.heap.size, 3, none⟩ = some (.int .i64 e) := K1.at 3)
    | (go_at_call 12; (with_reducible refine (S3 _).mono ?_); rintro x w1 ⟨rfl, b1⟩; replace K1 := K1.below b1 K1.lt; replace pr := bel pr b1; clear b1; have c0 : w1.cell? ⟨w.heap.size, 0, none⟩ = some (.int .i64 k) := K1.at 0; have c1 : w1.cell? ⟨w.heap.size, 1, none⟩ = some (.bool g) := K1.at 1; have c2 : w1.cell? ⟨w.heap.size, 2, none⟩ = some (.int .u64 m) := K1.at 2; have c3 : w1.cell? ⟨w.heap.size, 3, none⟩ = some (.int .i64 e) := K1.at 3)
    | (go_at_call 14; (with_reducible refine (Small_any _).mono ?_); rintro x w1 ⟨rfl, b1⟩; replace K1 := K1.below b1 K1.lt; replace pr := bel pr b1; clear b1; have c0 : w1.cell? ⟨w.heap.size, 0, none⟩ = some (.int .i64 k) := K1.at 0; have c1 : w1.cell? ⟨w.heap.size, 1, none⟩ = some (.bool g) := K1.at 1; have c2 : w1.cell? ⟨w.heap.size, 2, none⟩ = some (.int .u64 m) := K1.at 2; have c3 : w1.cell? ⟨w.heap.size, 3, none⟩ = some (.int .i64 e) := K1.at 3)
    | (go_at_call 11; (with_reducible refine (S4 _).mono ?_); rintro x w1 ⟨rfl, b1⟩; replace K1 := K1.below b1 K1.lt; replace pr := bel pr b1; clear b1; have c0 : w1.cell? ⟨w.heap.size, 0, none⟩ = some (.int .i64 k) := K1.at 0; have c1 : w1.cell? ⟨w.heap.size, 1, none⟩ = some (.bool g) := K1.at 1; have c2 : w1.cell? ⟨w.heap.size, 2, none⟩ = some (.int .u64 m) := K1.at 2; have c3 : w1.cell? ⟨w.heap.size, 3, none⟩ = some (.int .i64 e) := K1.at 3)
    | (go_at_call 15; (with_reducible refine (J1 _).mono ?_); rintro x w1 ⟨rfl, b1⟩; replace K1 := K1.below b1 K1.lt; replace pr := bel pr b1; clear b1; have c0 : w1.cell? ⟨w.heap.size, 0, none⟩ = some (.int .i64 k) := K1.at 0; have c1 : w1.cell? ⟨w.heap.size, 1, none⟩ = some (.bool g) := K1.at 1; have c2 : w1.cell? ⟨w.heap.size, 2, none⟩ = some (.int .u64 m) := K1.at 2; have c3 : w1.cell? ⟨w.heap.size, 3, none⟩ = some (.int .i64 e) := K1.at 3)
    | (go_at_call 16; (with_reducible refine (J2 _).mono ?_); rintro x w1 ⟨rfl, b1⟩; replace K1 := K1.below b1 K1.lt; replace pr := bel pr b1; clear b1; have c0 : w1.cell? ⟨w.heap.size, 0, none⟩ = some (.int .i64 k) := K1.at 0; have c1 : w1.cell? ⟨w.heap.size, 1, none⟩ = some (.bool g) := K1.at 1; have c2 : w1.cell? ⟨w.heap.size, 2, none⟩ = some (.int .u64 m) := K1.at 2; have c3 : w1.cell? ⟨w.heap.size, 3, none⟩ = some (.int .i64 e) := K1.at 3)
    | fail)
  go_region_held3 (fun x => x.cell? ⟨w.heap.size, 0, none⟩ = some (.int .i64 k) ∧ x.cell? ⟨w.heap.size, 1, none⟩ = some (.bool g) ∧ x.cell? ⟨w.heap.size, 2, none⟩ = some (.int .u64 m) ∧ x.cell? ⟨w.heap.size, 3, none⟩ = some (.int .i64 e)) (go_keep) (first
    | (go_at_call 10; (with_reducible refine (Wide_any _).mono ?_); rintro x w1 ⟨rfl, b1⟩; replace K1 := K1.below (below_undrew b1) K1.lt; replace pr := bel pr (below_undrew b1); clear b1; have c0 : w1.cell? ⟨w.heap.size, 0, none⟩ = some (.int .i64 k) := K1.at 0; have c1 : w1.cell? ⟨w.heap.size, 1, none⟩ = some (.bool g) := K1.at 1; have c2 : w1.cell? ⟨w.heap.size, 2, none⟩ = some (.int .u64 m) := K1.at 2; have c3 : w1.cell? ⟨w.heap.size, 3, none⟩ = some (.int .i64 e) := K1.at 3)
    | (go_at_call 17; (with_reducible refine (J3 _).mono ?_); rintro x w1 ⟨rfl, b1⟩; replace K1 := K1.below b1 K1.lt; replace pr := bel pr b1; clear b1; have c0 : w1.cell? ⟨w.heap.size, 0, none⟩ = some (.int .i64 k) := K1.at 0; have c1 : w1.cell? ⟨w.heap.size, 1, none⟩ = some (.bool g) := K1.at 1; have c2 : w1.cell? ⟨w.heap.size, 2, none⟩ = some (.int .u64 m) := K1.at 2; have c3 : w1.cell? ⟨w.heap.size, 3, none⟩ = some (.int .i64 e) := K1.at 3)
    | fail)
  go_wp2_with fail
  go_region_held3 (fun x => x.cell? ⟨w.heap.size, 0, none⟩ = some (.int .i64 k) ∧ x.cell? ⟨w.heap.size, 1, none⟩ = some (.bool g) ∧ x.cell? ⟨w.heap.size, 2, none⟩ = some (.int .u64 m) ∧ x.cell? ⟨w.heap.size, 3, none⟩ = some (.int .i64 e)) (go_keep) (first
    | (go_at_call 14; (with_reducible refine (Small_any _).mono ?_); rintro x w1 ⟨rfl, b1⟩; replace K1 := K1.below (below_undrew b1) K1.lt; replace pr := bel pr (below_undrew b1); clear b1; have c0 : w1.cell? ⟨w.heap.size, 0, none⟩ = some (.int .i64 k) := K1.at 0; have c1 : w1.cell? ⟨w.heap.size, 1, none⟩ = some (.bool g) := K1.at 1; have c2 : w1.cell? ⟨w.heap.size, 2, none⟩ = some (.int .u64 m) := K1.at 2; have c3 : w1.cell? ⟨w.heap.size, 3, none⟩ = some (.int .i64 e) := K1.at 3)
    | (go_at_call 17; (with_reducible refine (J4 _).mono ?_); rintro x w1 ⟨rfl, b1⟩; replace K1 := K1.below b1 K1.lt; replace pr := bel pr b1; clear b1; have c0 : w1.cell? ⟨w.heap.size, 0, none⟩ = some (.int .i64 k) := K1.at 0; have c1 : w1.cell? ⟨w.heap.size, 1, none⟩ = some (.bool g) := K1.at 1; have c2 : w1.cell? ⟨w.heap.size, 2, none⟩ = some (.int .u64 m) := K1.at 2; have c3 : w1.cell? ⟨w.heap.size, 3, none⟩ = some (.int .i64 e) := K1.at 3)
    | fail)
  go_wp2_with (first
    | (go_at_call 18; refine (I1 _).mono ?_; rintro x w1 ⟨rfl, rfl⟩)
    | (go_at_call 19; refine (I2 _).mono ?_; rintro x w1 ⟨rfl, rfl⟩)
    | (go_at_call 8; (with_reducible refine (S5 _).mono ?_); rintro x w1 ⟨rfl, b1⟩; replace K1 := K1.below b1 K1.lt; replace pr := bel pr b1; clear b1; have c0 : w1.cell? ⟨w.heap.size, 0, none⟩ = some (.int .i64 k) := K1.at 0; have c1 : w1.cell? ⟨w.heap.size, 1, none⟩ = some (.bool g) := K1.at 1; have c2 : w1.cell? ⟨w.heap.size, 2, none⟩ = some (.int .u64 m) := K1.at 2; have c3 : w1.cell? ⟨w.heap.size, 3, none⟩ = some (.int .i64 e) := K1.at 3)
    | fail)
  go_ret
  exact ⟨rfl, pr⟩
end Go.Proofs.Ytjgljcifnklmeaa
