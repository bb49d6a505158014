import Derived.Test.YtlngkonmalallaaPart07

namespace Go.Proofs.Ytlngkonmalallaa
open Go.RowKit Tn

/-- It can be told. -/
def okWTold (p : Int × Bool × Int × Int) : Decidable (OkW p) := by unfold OkW; infer_instance
/-- What is put together of parts: the bits, and 0; or 0, and ErrParts. -/
def joiW (p : Int × Bool × Int × Int) : Int × Int := @ite (Int × Int) (OkW p) (okWTold p) (pckW p, 0) (0, 21)
set_option maxRecDepth 100000 in
set_option maxHeartbeats 1600000 in
theorem join_w_walk (k : Int) (g : Bool) (m e N : Int) (k' : Int) (g' : Bool) (m' e' : Int) (t : Bool)
    (hp : ∀ w : World, Calls Try.prog 98 #[fmtW, prt k g m e] w fun e w' => e = .returned (.int .u64 N) ∧ Below w.heap.size w w')
    (hs : ∀ w : World, Calls Try.prog 52 #[fmtW, .int .u64 N] w fun e w' => e = .returned (prt k' g' m' e') ∧ Below w.heap.size w w')
    (ht : ((k' == k) = false ∧ t = false) ∨ (k' = k ∧ (g' == g) = false ∧ t = false) ∨ (k' = k ∧ g' = g ∧ (m' == m) = false ∧ t = false) ∨ (k' = k ∧ g' = g ∧ m' = m ∧ (e' == e) = false ∧ t = false) ∨ (k' = k ∧ g' = g ∧ m' = m ∧ e' = e ∧ t = true)) (w : World) :
    Calls Try.prog 58 #[fmtW, prt k g m e] w fun x w' => x = .returned (.tuple #[.int .u64 (bif t then N else 0), .int .i64 (bif t then 0 else 21)]) ∧ Below w.heap.size w w' := by
  rcases ht with ⟨t1, rfl⟩ | ⟨rfl, t1, rfl⟩ | ⟨rfl, rfl, t1, rfl⟩ | ⟨rfl, rfl, rfl, t1, rfl⟩ | ⟨rfl, rfl, rfl, rfl, rfl⟩
  · go_enter Try.func58, Try.ntmps58
    have K0 : Blk ((w.alloc (.cells #[.int .i64 53, .int .i64 (-1074), .int .i64 971] 85)).alloc (.cells #[.int .i64 k, .bool g, .int .u64 m, .int .i64 e] 25)) w.heap.size #[.int .i64 53, .int .i64 (-1074), .int .i64 971] 85 := (Blk.new w _ _).alloc _
    have K1 := Blk.new (w.alloc (.cells #[.int .i64 53, .int .i64 (-1074), .int .i64 971] 85)) #[.int .i64 k, .bool g, .int .u64 m, .int .i64 e] 25
    have pr : Below w.heap.size w ((w.alloc (.cells #[.int .i64 53, .int .i64 (-1074), .int .i64 971] 85)).alloc (.cells #[.int .i64 k, .bool g, .int .u64 m, .int .i64 e] 25)) := ((Below.refl _ _).alloc (Nat.le_refl _) _).alloc (by simp) _
    simp only [World.size_alloc] at K1
    go_wp2_with (first
      | (go_at_call 98; refine (hp _).mono ?_; rintro e w1 ⟨rfl, b1⟩; replace K0 := K0.below b1 K0.lt; replace K1 := K1.below b1 K1.lt; replace pr := bel pr b1; clear b1; have e0 : w1.cell? ⟨w.heap.size, 0, none⟩ = some (.int .i64 53) := K0.at 0; have e1 : w1.cell? ⟨w.heap.size, 1, none⟩ = some (.int .i64 (-1074)) := K0.at 1; have e2 : w1.cell? ⟨w.heap.size, 2, none⟩ = some (.int .i64 971) := K0.at 2; have c0 : w1.cell? ⟨w.heap.size + 1, 0, none⟩ = some (.int .i64 k) := K1.at 0; have c1 : w1.cell? ⟨w.heap.size + 1, 1, none⟩ = some (.bool g) := K1.at 1; have c2 : w1.cell? ⟨w.heap.size + 1, 2, none⟩ = some (.int .u64 m) := K1.at 2; have c3 : w1.cell? ⟨w.heap.size + 1, 3, none⟩ = some (.int .i64 e) := K1.at 3)
      | fail)
    go_region_held3 (fun x => x.cell? ⟨w.heap.size, 0, none⟩ = some (.int .i64 53) ∧ x.cell? ⟨w.heap.size, 1, none⟩ = some (.int .i64 (-1074)) ∧ x.cell? ⟨w.heap.size, 2, none⟩ = some (.int .i64 971) ∧ x.cell? ⟨w.heap.size + 1, 0, none⟩ = some (.int .i64 k) ∧ x.cell? ⟨w.heap.size + 1, 1, none⟩ = some (.bool g) ∧ x.cell? ⟨w.heap.size + 1, 2, none⟩ = some (.int .u64 m) ∧ x.cell? ⟨w.heap.size + 1, 3, none⟩ = some (.int .i64 e)) (go_keep) (first
      | (go_at_call 52; refine (hs _).mono ?_; rintro e w2 ⟨rfl, b2⟩; replace K0 := K0.below (below_undrew b2) K0.lt; replace K1 := K1.below (below_undrew b2) K1.lt; replace pr := bel pr (below_undrew b2); clear b2; have e0 : w2.cell? ⟨w.heap.size, 0, none⟩ = some (.int .i64 53) := K0.at 0; have e1 : w2.cell? ⟨w.heap.size, 1, none⟩ = some (.int .i64 (-1074)) := K0.at 1; have e2 : w2.cell? ⟨w.heap.size, 2, none⟩ = some (.int .i64 971) := K0.at 2; have c0 : w2.cell? ⟨w.heap.size + 1, 0, none⟩ = some (.int .i64 k) := K1.at 0; have c1 : w2.cell? ⟨w.heap.size + 1, 1, none⟩ = some (.bool g) := K1.at 1; have c2 : w2.cell? ⟨w.heap.size + 1, 2, none⟩ = some (.int .u64 m) := K1.at 2; have c3 : w2.cell? ⟨w.heap.size + 1, 3, none⟩ = some (.int .i64 e) := K1.at 3)
      | fail)
    go_wp2
    exact bodyPost_ret (v := .tuple #[.int .u64 0, .int .i64 21]) (by simp [results, Try.results58, go_sem]) rfl ⟨rfl, pr⟩
  · go_enter Try.func58, Try.ntmps58
    have K0 : Blk ((w.alloc (.cells #[.int .i64 53, .int .i64 (-1074), .int .i64 971] 85)).alloc (.cells #[.int .i64 k', .bool g, .int .u64 m, .int .i64 e] 25)) w.heap.size #[.int .i64 53, .int .i64 (-1074), .int .i64 971] 85 := (Blk.new w _ _).alloc _
    have K1 := Blk.new (w.alloc (.cells #[.int .i64 53, .int .i64 (-1074), .int .i64 971] 85)) #[.int .i64 k', .bool g, .int .u64 m, .int .i64 e] 25
    have pr : Below w.heap.size w ((w.alloc (.cells #[.int .i64 53, .int .i64 (-1074), .int .i64 971] 85)).alloc (.cells #[.int .i64 k', .bool g, .int .u64 m, .int .i64 e] 25)) := ((Below.refl _ _).alloc (Nat.le_refl _) _).alloc (by simp) _
    simp only [World.size_alloc] at K1
    go_wp2_with (first
      | (go_at_call 98; refine (hp _).mono ?_; rintro e w1 ⟨rfl, b1⟩; replace K0 := K0.below b1 K0.lt; replace K1 := K1.below b1 K1.lt; replace pr := bel pr b1; clear b1; have e0 : w1.cell? ⟨w.heap.size, 0, none⟩ = some (.int .i64 53) := K0.at 0; have e1 : w1.cell? ⟨w.heap.size, 1, none⟩ = some (.int .i64 (-1074)) := K0.at 1; have e2 : w1.cell? ⟨w.heap.size, 2, none⟩ = some (.int .i64 971) := K0.at 2; have c0 : w1.cell? ⟨w.heap.size + 1, 0, none⟩ = some (.int .i64 k') := K1.at 0; have c1 : w1.cell? ⟨w.heap.size + 1, 1, none⟩ = some (.bool g) := K1.at 1; have c2 : w1.cell? ⟨w.heap.size + 1, 2, none⟩ = some (.int .u64 m) := K1.at 2; have c3 : w1.cell? ⟨w.heap.size + 1, 3, none⟩ = some (.int .i64 e) := K1.at 3)
      | fail)
    go_region_held3 (fun x => x.cell? ⟨w.heap.size, 0, none⟩ = some (.int .i64 53) ∧ x.cell? ⟨w.heap.size, 1, none⟩ = some (.int .i64 (-1074)) ∧ x.cell? ⟨w.heap.size, 2, none⟩ = some (.int .i64 971) ∧ x.cell? ⟨w.heap.size + 1, 0, none⟩ = some (.int .i64 k') ∧ x.cell? ⟨w.heap.size + 1, 1, none⟩ = some (.bool g) ∧ x.cell? ⟨w.heap.size + 1, 2, none⟩ = some (.int .u64 m) ∧ x.cell? ⟨w.heap.size + 1, 3, none⟩ = some (.int .i64 e)) (go_keep) (first
      | (go_at_call 52; refine (hs _).mono ?_; rintro e w2 ⟨rfl, b2⟩; replace K0 := K0.below (below_undrew b2) K0.lt; replace K1 := K1.below (below_undrew b2) K1.lt; replace pr := bel pr (below_undrew b2); clear b2; have e0 : w2.cell? ⟨w.heap.size, 0, none⟩ = some (.int .i64 53) := K0.at 0; have e1 : w2.cell? ⟨w.heap.size, 1, none⟩ = some (.int .i64 (-1074)) := K0.at 1; have e2 : w2.cell? ⟨w.heap.size, 2, none⟩ = some (.int .i64 971) := K0.at 2; have c0 : w2.cell? ⟨w.heap.size + 1, 0, none⟩ = some (.int .i64 k') := K1.at 0; have c1 : w2.cell? ⟨w.heap.size + 1, 1, none⟩ = some (.bool g) := K1.at 1; have c2 : w2.cell? ⟨w.heap.size + 1, 2, none⟩ = some (.int .u64 m) := K1.at 2; have c3 : w2.cell? ⟨w.heap.size + 1, 3, none⟩ = some (.int .i64 e) := K1.at 3)
      | fail)
    go_wp2
    exact bodyPost_ret (v := .tuple #[.int .u64 0, .int .i64 21]) (by simp [results, Try.results58, go_sem]) rfl ⟨rfl, pr⟩
  · go_enter Try.func58, Try.ntmps58
    have K0 : Blk ((w.alloc (.cells #[.int .i64 53, .int .i64 (-1074), .int .i64 971] 85)).alloc (.cells #[.int .i64 k', .bool g', .int .u64 m, .int .i64 e] 25)) w.heap.size #[.int .i64 53, .int .i64 (-1074), .int .i64 971] 85 := (Blk.new w _ _).alloc _
    have K1 := Blk.new (w.alloc (.cells #[.int .i64 53, .int .i64 (-1074), .int .i64 971] 85)) #[.int .i64 k', .bool g', .int .u64 m, .int .i64 e] 25
    have pr : Below w.heap.size w ((w.alloc (.cells #[.int .i64 53, .int .i64 (-1074), .int .i64 971] 85)).alloc (.cells #[.int .i64 k', .bool g', .int .u64 m, .int .i64 e] 25)) := ((Below.refl _ _).alloc (Nat.le_refl _) _).alloc (by simp) _
    simp only [World.size_alloc] at K1
    go_wp2_with (first
      | (go_at_call 98; refine (hp _).mono ?_; rintro e w1 ⟨rfl, b1⟩; replace K0 := K0.below b1 K0.lt; replace K1 := K1.below b1 K1.lt; replace pr := bel pr b1; clear b1; have e0 : w1.cell? ⟨w.heap.size, 0, none⟩ = some (.int .i64 53) := K0.at 0; have e1 : w1.cell? ⟨w.heap.size, 1, none⟩ = some (.int .i64 (-1074)) := K0.at 1; have e2 : w1.cell? ⟨w.heap.size, 2, none⟩ = some (.int .i64 971) := K0.at 2; have c0 : w1.cell? ⟨w.heap.size + 1, 0, none⟩ = some (.int .i64 k') := K1.at 0; have c1 : w1.cell? ⟨w.heap.size + 1, 1, none⟩ = some (.bool g') := K1.at 1; have c2 : w1.cell? ⟨w.heap.size + 1, 2, none⟩ = some (.int .u64 m) := K1.at 2; have c3 : w1.cell? ⟨w.heap.size + 1, 3, none⟩ = some (.int .i64 e) := K1.at 3)
      | fail)
    go_region_held3 (fun x => x.cell? ⟨w.heap.size, 0, none⟩ = some (.int .i64 53) ∧ x.cell? ⟨w.heap.size, 1, none⟩ = some (.int .i64 (-1074)) ∧ x.cell? ⟨w.heap.size, 2, none⟩ = some (.int .i64 971) ∧ x.cell? ⟨w.heap.size + 1, 0, none⟩ = some (.int .i64 k') ∧ x.cell? ⟨w.heap.size + 1, 1, none⟩ = some (.bool g') ∧ x.cell? ⟨w.heap.size + 1, 2, none⟩ = some (.int .u64 m) ∧ x.cell? ⟨w.heap.size + 1, 3, none⟩ = some (.int .i64 e)) (go_keep) (first
      | (go_at_call 52; refine (hs _).mono ?_; rintro e w2 ⟨rfl, b2⟩; replace K0 := K0.below (below_undrew b2) K0.lt; replace K1 := K1.below (below_undrew b2) K1.lt; replace pr := bel pr (below_undrew b2); clear b2; have e0 : w2.cell? ⟨w.heap.size, 0, none⟩ = some (.int .i64 53) := K0.at 0; have e1 : w2.cell? ⟨w.heap.size, 1, none⟩ = some (.int .i64 (-1074)) := K0.at 1; have e2 : w2.cell? ⟨w.heap.size, 2, none⟩ = some (.int .i64 971) := K0.at 2; have c0 : w2.cell? ⟨w.heap.size + 1, 0, none⟩ = some (.int .i64 k') := K1.at 0; have c1 : w2.cell? ⟨w.heap.size + 1, 1, none⟩ = some (.bool g') := K1.at 1; have c2 : w2.cell? ⟨w.heap.size + 1, 2, none⟩ = some (.int .u64 m) := K1.at 2; have c3 : w2.cell? ⟨w.heap.size + 1, 3, none⟩ = some (.int .i64 e) := K1.at 3)
      | fail)
    go_wp2
    exact bodyPost_ret (v := .tuple #[.int .u64 0, .int .i64 21]) (by simp [results, Try.results58, go_sem]) rfl ⟨rfl, pr⟩
  · go_enter Try.func58, Try.ntmps58
    have K0 : Blk ((w.alloc (.cells #[.int .i64 53, .int .i64 (-1074), .int .i64 971] 85)).alloc (.cells #[.int .i64 k', .bool g', .int .u64 m', .int .i64 e] 25)) w.heap.size #[.int .i64 53, .int .i64 (-1074), .int .i64 971] 85 := (Blk.new w _ _).alloc _
    have K1 := Blk.new (w.alloc (.cells #[.int .i64 53, .int .i64 (-1074), .int .i64 971] 85)) #[.int .i64 k', .bool g', .int .u64 m', .int .i64 e] 25
    have pr : Below w.heap.size w ((w.alloc (.cells #[.int .i64 53, .int .i64 (-1074), .int .i64 971] 85)).alloc (.cells #[.int .i64 k', .bool g', .int .u64 m', .int .i64 e] 25)) := ((Below.refl _ _).alloc (Nat.le_refl _) _).alloc (by simp) _
    simp only [World.size_alloc] at K1
    go_wp2_with (first
      | (go_at_call 98; refine (hp _).mono ?_; rintro e w1 ⟨rfl, b1⟩; replace K0 := K0.below b1 K0.lt; replace K1 := K1.below b1 K1.lt; replace pr := bel pr b1; clear b1; have e0 : w1.cell? ⟨w.heap.size, 0, none⟩ = some (.int .i64 53) := K0.at 0; have e1 : w1.cell? ⟨w.heap.size, 1, none⟩ = some (.int .i64 (-1074)) := K0.at 1; have e2 : w1.cell? ⟨w.heap.size, 2, none⟩ = some (.int .i64 971) := K0.at 2; have c0 : w1.cell? ⟨w.heap.size + 1, 0, none⟩ = some (.int .i64 k') := K1.at 0; have c1 : w1.cell? ⟨w.heap.size + 1, 1, none⟩ = some (.bool g') := K1.at 1; have c2 : w1.cell? ⟨w.heap.size + 1, 2, none⟩ = some (.int .u64 m') := K1.at 2; have c3 : w1.cell? ⟨w.heap.size + 1, 3, none⟩ = some (.int .i64 e) := K1.at 3)
      | fail)
    go_region_held3 (fun x => x.cell? ⟨w.heap.size, 0, none⟩ = some (.int .i64 53) ∧ x.cell? ⟨w.heap.size, 1, none⟩ = some (.int .i64 (-1074)) ∧ x.cell? ⟨w.heap.size, 2, none⟩ = some (.int .i64 971) ∧ x.cell? ⟨w.heap.size + 1, 0, none⟩ = some (.int .i64 k') ∧ x.cell? ⟨w.heap.size + 1, 1, none⟩ = some (.bool g') ∧ x.cell? ⟨w.heap.size + 1, 2, none⟩ = some (.int .u64 m') ∧ x.cell? ⟨w.heap.size + 1, 3, none⟩ = some (.int .i64 e)) (go_keep) (first
      | (go_at_call 52; refine (hs _).mono ?_; rintro e w2 ⟨rfl, b2⟩; replace K0 := K0.below (below_undrew b2) K0.lt; replace K1 := K1.below (below_undrew b2) K1.lt; replace pr := bel pr (below_undrew b2); clear b2; have e0 : w2.cell? ⟨w.heap.size, 0, none⟩ = some (.int .i64 53) := K0.at 0; have e1 : w2.cell? ⟨w.heap.size, 1, none⟩ = some (.int .i64 (-1074)) := K0.at 1; have e2 : w2.cell? ⟨w.heap.size, 2, none⟩ = some (.int .i64 971) := K0.at 2; have c0 : w2.cell? ⟨w.heap.size + 1, 0, none⟩ = some (.int .i64 k') := K1.at 0; have c1 : w2.cell? ⟨w.heap.size + 1, 1, none⟩ = some (.bool g') := K1.at 1; have c2 : w2.cell? ⟨w.heap.size + 1, 2, none⟩ = some (.int .u64 m') := K1.at 2; have c3 : w2.cell? ⟨w.heap.size + 1, 3, none⟩ = some (.int .i64 e) := K1.at 3)
      | fail)
    go_wp2
    exact bodyPost_ret (v := .tuple #[.int .u64 0, .int .i64 21]) (by simp [results, Try.results58, go_sem]) rfl ⟨rfl, pr⟩
  · go_enter Try.func58, Try.ntmps58
    have K0 : Blk ((w.alloc (.cells #[.int .i64 53, .int .i64 (-1074), .int .i64 971] 85)).alloc (.cells #[.int .i64 k', .bool g', .int .u64 m', .int .i64 e'] 25)) w.heap.size #[.int .i64 53, .int .i64 (-1074), .int .i64 971] 85 := (Blk.new w _ _).alloc _
    have K1 := Blk.new (w.alloc (.cells #[.int .i64 53, .int .i64 (-1074), .int .i64 971] 85)) #[.int .i64 k', .bool g', .int .u64 m', .int .i64 e'] 25
    have pr : Below w.heap.size w ((w.alloc (.cells #[.int .i64 53, .int .i64 (-1074), .int .i64 971] 85)).alloc (.cells #[.int .i64 k', .bool g', .int .u64 m', .int .i64 e'] 25)) := ((Below.refl _ _).alloc (Nat.le_refl _) _).alloc (by simp) _
    simp only [World.size_alloc] at K1
    go_wp2_with (first
      | (go_at_call 98; refine (hp _).mono ?_; rintro e w1 ⟨rfl, b1⟩; replace K0 := K0.below b1 K0.lt; replace K1 := K1.below b1 K1.lt; replace pr := bel pr b1; clear b1; have e0 : w1.cell? ⟨w.heap.size, 0, none⟩ = some (.int .i64 53) := K0.at 0; have e1 : w1.cell? ⟨w.heap.size, 1, none⟩ = some (.int .i64 (-1074)) := K0.at 1; have e2 : w1.cell? ⟨w.heap.size, 2, none⟩ = some (.int .i64 971) := K0.at 2; have c0 : w1.cell? ⟨w.heap.size + 1, 0, none⟩ = some (.int .i64 k') := K1.at 0; have c1 : w1.cell? ⟨w.heap.size + 1, 1, none⟩ = some (.bool g') := K1.at 1; have c2 : w1.cell? ⟨w.heap.size + 1, 2, none⟩ = some (.int .u64 m') := K1.at 2; have c3 : w1.cell? ⟨w.heap.size + 1, 3, none⟩ = some (.int .i64 e') := K1.at 3)
      | fail)
    go_region_held3 (fun x => x.cell? ⟨w.heap.size, 0, none⟩ = some (.int .i64 53) ∧ x.cell? ⟨w.heap.size, 1, none⟩ = some (.int .i64 (-1074)) ∧ x.cell? ⟨w.heap.size, 2, none⟩ = some (.int .i64 971) ∧ x.cell? ⟨w.heap.size + 1, 0, none⟩ = some (.int .i64 k') ∧ x.cell? ⟨w.heap.size + 1, 1, none⟩ = some (.bool g') ∧ x.cell? ⟨w.heap.size + 1, 2, none⟩ = some (.int .u64 m') ∧ x.cell? ⟨w.heap.size + 1, 3, none⟩ = some (.int .i64 e')) (go_keep) (first
      | (go_at_call 52; refine (hs _).mono ?_; rintro e w2 ⟨rfl, b2⟩; replace K0 := K0.below (below_undrew b2) K0.lt; replace K1 := K1.below (below_undrew b2) K1.lt; replace pr := bel pr (below_undrew b2); clear b2; have e0 : w2.cell? ⟨w.heap.size, 0, none⟩ = some (.int .i64 53) := K0.at 0; have e1 : w2.cell? ⟨w.heap.size, 1, none⟩ = some (.int .i64 (-1074)) := K0.at 1; have e2 : w2.cell? ⟨w.heap.size, 2, none⟩ = some (.int .i64 971) := K0.at 2; have c0 : w2.cell? ⟨w.heap.size + 1, 0, none⟩ = some (.int .i64 k') := K1.at 0; have c1 : w2.cell? ⟨w.heap.size + 1, 1, none⟩ = some (.bool g') := K1.at 1; have c2 : w2.cell? ⟨w.heap.size + 1, 2, none⟩ = some (.int .u64 m') := K1.at 2; have c3 : w2.cell? ⟨w.heap.size + 1, 3, none⟩ = some (.int .i64 e') := K1.at 3)
      | fail)
    go_wp2
    exact bodyPost_ret (v := .tuple #[.int .u64 N, .int .i64 0]) (by simp [results, Try.results58, go_sem]) rfl ⟨rfl, pr⟩
theorem join_w (p : Int × Bool × Int × Int) (h0 : 0 ≤ p.2.2.1) (h1 : p.2.2.1 < 18446744073709551616) (w : World) :
    Calls Try.prog 58 #[fmtW, prt4 p] w fun x w' => x = .returned (.tuple #[.int .u64 (joiW p).1, .int .i64 (joiW p).2]) ∧ Below w.heap.size w w' := by
  obtain ⟨N, n1, n2, P⟩ := pack_w p h0 h1
  have S := split_w N n1
  have o' := splW_ok N
  obtain ⟨k, g, m, e⟩ := p
  generalize hq : splW N = q at S o'
  obtain ⟨k', g', m', e'⟩ := q
  by_cases o : OkW (k, g, m, e)
  · have E : splW N = (k, g, m, e) := by
      have h := splW_pck o
      rw [← n2 o, Int.toNat_natCast] at h
      exact h
    rw [hq] at E
    simp only [Prod.mk.injEq] at E
    obtain ⟨rfl, rfl, rfl, rfl⟩ := E
    have H := join_w_walk k' g' m' e' N k' g' m' e' true P S (Or.inr (Or.inr (Or.inr (Or.inr ⟨rfl, rfl, rfl, rfl, rfl⟩)))) w
    rw [n2 o] at H
    unfold joiW
    rw [if_pos o]
    exact H
  · have ne : ¬ (k' = k ∧ g' = g ∧ m' = m ∧ e' = e) := by
      rintro ⟨rfl, rfl, rfl, rfl⟩
      exact o o'
    unfold joiW
    rw [if_neg o]
    refine join_w_walk k g m e N k' g' m' e' false P S ?_ w
    by_cases a1 : k' = k
    · by_cases a2 : g' = g
      · by_cases a3 : m' = m
        · exact Or.inr (Or.inr (Or.inr (Or.inl ⟨a1, a2, a3, by simp; exact fun h => ne ⟨a1, a2, a3, h⟩, rfl⟩)))
        · exact Or.inr (Or.inr (Or.inl ⟨a1, a2, by simp [a3], rfl⟩))
      · exact Or.inr (Or.inl ⟨a1, by simp [a2], rfl⟩)
    · exact Or.inl ⟨by simp [a1], rfl⟩
/-- It can be told. -/
def okSTold (p : Int × Bool × Int × Int) : Decidable (OkS p) := by unfold OkS; infer_instance
/-- What is put together of parts: the bits, and 0; or 0, and ErrParts. -/
def joiS (p : Int × Bool × Int × Int) : Int × Int := @ite (Int × Int) (OkS p) (okSTold p) (pckS p, 0) (0, 21)
set_option maxRecDepth 100000 in
set_option maxHeartbeats 1600000 in
theorem join_s_walk (k : Int) (g : Bool) (m e N : Int) (k' : Int) (g' : Bool) (m' e' : Int) (t : Bool)
    (hp : ∀ w : World, Calls Try.prog 98 #[fmtS, prt k g m e] w fun e w' => e = .returned (.int .u64 N) ∧ Below w.heap.size w w')
    (hs : ∀ w : World, Calls Try.prog 52 #[fmtS, .int .u64 N] w fun e w' => e = .returned (prt k' g' m' e') ∧ Below w.heap.size w w')
    (ht : ((k' == k) = false ∧ t = false) ∨ (k' = k ∧ (g' == g) = false ∧ t = false) ∨ (k' = k ∧ g' = g ∧ (m' == m) = false ∧ t = false) ∨ (k' = k ∧ g' = g ∧ m' = m ∧ (e' == e) = false ∧ t = false) ∨ (k' = k ∧ g' = g ∧ m' = m ∧ e' = e ∧ t = true)) (w : World) :
    Calls Try.prog 58 #[fmtS, prt k g m e] w fun x w' => x = .returned (.tuple #[.int .u64 (bif t then N else 0), .int .i64 (bif t then 0 else 21)]) ∧ Below w.heap.size w w' := by
  rcases ht with ⟨t1, rfl⟩ | ⟨rfl, t1, rfl⟩ | ⟨rfl, rfl, t1, rfl⟩ | ⟨rfl, rfl, rfl, t1, rfl⟩ | ⟨rfl, rfl, rfl, rfl, rfl⟩
  · go_enter Try.func58, Try.ntmps58
    have K0 : Blk ((w.alloc (.cells #[.int .i64 24, .int .i64 (-149), .int .i64 104] 85)).alloc (.cells #[.int .i64 k, .bool g, .int .u64 m, .int .i64 e] 25)) w.heap.size #[.int .i64 24, .int .i64 (-149), .int .i64 104] 85 := (Blk.new w _ _).alloc _
    have K1 := Blk.new (w.alloc (.cells #[.int .i64 24, .int .i64 (-149), .int .i64 104] 85)) #[.int .i64 k, .bool g, .int .u64 m, .int .i64 e] 25
    have pr : Below w.heap.size w ((w.alloc (.cells #[.int .i64 24, .int .i64 (-149), .int .i64 104] 85)).alloc (.cells #[.int .i64 k, .bool g, .int .u64 m, .int .i64 e] 25)) := ((Below.refl _ _).alloc (Nat.le_refl _) _).alloc (by simp) _
    simp only [World.size_alloc] at K1
    go_wp2_with (first
      | (go_at_call 98; refine (hp _).mono ?_; rintro e w1 ⟨rfl, b1⟩; replace K0 := K0.below b1 K0.lt; replace K1 := K1.below b1 K1.lt; replace pr := bel pr b1; clear b1; have e0 : w1.cell? ⟨w.heap.size, 0, none⟩ = some (.int .i64 24) := K0.at 0; have e1 : w1.cell? ⟨w.heap.size, 1, none⟩ = some (.int .i64 (-149)) := K0.at 1; have e2 : w1.cell? ⟨w.heap.size, 2, none⟩ = some (.int .i64 104) := K0.at 2; have c0 : w1.cell? ⟨w.heap.size + 1, 0, none⟩ = some (.int .i64 k) := K1.at 0; have c1 : w1.cell? ⟨w.heap.size + 1, 1, none⟩ = some (.bool g) := K1.at 1; have c2 : w1.cell? ⟨w.heap.size + 1, 2, none⟩ = some (.int .u64 m) := K1.at 2; have c3 : w1.cell? ⟨w.heap.size + 1, 3, none⟩ = some (.int .i64 e) := K1.at 3)
      | fail)
    go_region_held3 (fun x => x.cell? ⟨w.heap.size, 0, none⟩ = some (.int .i64 24) ∧ x.cell? ⟨w.heap.size, 1, none⟩ = some (.int .i64 (-149)) ∧ x.cell? ⟨w.heap.size, 2, none⟩ = some (.int .i64 104) ∧ x.cell? ⟨w.heap.size + 1, 0, none⟩ = some (.int .i64 k) ∧ x.cell? ⟨w.heap.size + 1, 1, none⟩ = some (.bool g) ∧ x.cell? ⟨w.heap.size + 1, 2, none⟩ = some (.int .u64 m) ∧ x.cell? ⟨w.heap.size + 1, 3, none⟩ = some (.int .i64 e)) (go_keep) (first
      | (go_at_call 52; refine (hs _).mono ?_; rintro e w2 ⟨rfl, b2⟩; replace K0 := K0.below (below_undrew b2) K0.lt; replace K1 := K1.below (below_undrew b2) K1.lt; replace pr := bel pr (below_undrew b2); clear b2; have e0 : w2.cell? ⟨w.heap.size, 0, none⟩ = some (.int .i64 24) := K0.at 0; have e1 : w2.cell? ⟨w.heap.size, 1, none⟩ = some (.int .i64 (-149)) := K0.at 1; have e2 : w2.cell? ⟨w.heap.size, 2, none⟩ = some (.int .i64 104) := K0.at 2; have c0 : w2.cell? ⟨w.heap.size + 1, 0, none⟩ = some (.int .i64 k) := K1.at 0; have c1 : w2.cell? ⟨w.heap.size + 1, 1, none⟩ = some (.bool g) := K1.at 1; have c2 : w2.cell? ⟨w.heap.size + 1, 2, none⟩ = some (.int .u64 m) := K1.at 2; have c3 : w2.cell? ⟨w.heap.size + 1, 3, none⟩ = some (.int .i64 e) := K1.at 3)
      | fail)
    go_wp2
    exact bodyPost_ret (v := .tuple #[.int .u64 0, .int .i64 21]) (by simp [results, Try.results58, go_sem]) rfl ⟨rfl, pr⟩
  · go_enter Try.func58, Try.ntmps58
    have K0 : Blk ((w.alloc (.cells #[.int .i64 24, .int .i64 (-149), .int .i64 104] 85)).alloc (.cells #[.int .i64 k', .bool g, .int .u64 m, .int .i64 e] 25)) w.heap.size #[.int .i64 24, .int .i64 (-149), .int .i64 104] 85 := (Blk.new w _ _).alloc _
    have K1 := Blk.new (w.alloc (.cells #[.int .i64 24, .int .i64 (-149), .int .i64 104] 85)) #[.int .i64 k', .bool g, .int .u64 m, .int .i64 e] 25
    have pr : Below w.heap.size w ((w.alloc (.cells #[.int .i64 24, .int .i64 (-149), .int .i64 104] 85)).alloc (.cells #[.int .i64 k', .bool g, .int .u64 m, .int .i64 e] 25)) := ((Below.refl _ _).alloc (Nat.le_refl _) _).alloc (by simp) _
    simp only [World.size_alloc] at K1
    go_wp2_with (first
      | (go_at_call 98; refine (hp _).mono ?_; rintro e w1 ⟨rfl, b1⟩; replace K0 := K0.below b1 K0.lt; replace K1 := K1.below b1 K1.lt; replace pr := bel pr b1; clear b1; have e0 : w1.cell? ⟨w.heap.size, 0, none⟩ = some (.int .i64 24) := K0.at 0; have e1 : w1.cell? ⟨w.heap.size, 1, none⟩ = some (.int .i64 (-149)) := K0.at 1; have e2 : w1.cell? ⟨w.heap.size, 2, none⟩ = some (.int .i64 104) := K0.at 2; have c0 : w1.cell? ⟨w.heap.size + 1, 0, none⟩ = some (.int .i64 k') := K1.at 0; have c1 : w1.cell? ⟨w.heap.size + 1, 1, none⟩ = some (.bool g) := K1.at 1; have c2 : w1.cell? ⟨w.heap.size + 1, 2, none⟩ = some (.int .u64 m) := K1.at 2; have c3 : w1.cell? ⟨w.heap.size + 1, 3, none⟩ = some (.int .i64 e) := K1.at 3)
      | fail)
    go_region_held3 (fun x => x.cell? ⟨w.heap.size, 0, none⟩ = some (.int .i64 24) ∧ x.cell? ⟨w.heap.size, 1, none⟩ = some (.int .i64 (-149)) ∧ x.cell? ⟨w.heap.size, 2, none⟩ = some (.int .i64 104) ∧ x.cell? ⟨w.heap.size + 1, 0, none⟩ = some (.int .i64 k') ∧ x.cell? ⟨w.heap.size + 1, 1, none⟩ = some (.bool g) ∧ x.cell? ⟨w.heap.size + 1, 2, none⟩ = some (.int .u64 m) ∧ x.cell? ⟨w.heap.size + 1, 3, none⟩ = some (.int .i64 e)) (go_keep) (first
      | (go_at_call 52; refine (hs _).mono ?_; rintro e w2 ⟨rfl, b2⟩; replace K0 := K0.below (below_undrew b2) K0.lt; replace K1 := K1.below (below_undrew b2) K1.lt; replace pr := bel pr (below_undrew b2); clear b2; have e0 : w2.cell? ⟨w.heap.size, 0, none⟩ = some (.int .i64 24) := K0.at 0; have e1 : w2.cell? ⟨w.heap.size, 1, none⟩ = some (.int .i64 (-149)) := K0.at 1; have e2 : w2.cell? ⟨w.heap.size, 2, none⟩ = some (.int .i64 104) := K0.at 2; have c0 : w2.cell? ⟨w.heap.size + 1, 0, none⟩ = some (.int .i64 k') := K1.at 0; have c1 : w2.cell? ⟨w.heap.size + 1, 1, none⟩ = some (.bool g) := K1.at 1; have c2 : w2.cell? ⟨w.heap.size + 1, 2, none⟩ = some (.int .u64 m) := K1.at 2; have c3 : w2.cell? ⟨w.heap.size + 1, 3, none⟩ = some (.int .i64 e) := K1.at 3)
      | fail)
    go_wp2
    exact bodyPost_ret (v := .tuple #[.int .u64 0, .int .i64 21]) (by simp [results, Try.results58, go_sem]) rfl ⟨rfl, pr⟩
  · go_enter Try.func58, Try.ntmps58
    have K0 : Blk ((w.alloc (.cells #[.int .i64 24, .int .i64 (-149), .int .i64 104] 85)).alloc (.cells #[.int .i64 k', .bool g', .int .u64 m, .int .i64 e] 25)) w.heap.size #[.int .i64 24, .int .i64 (-149), .int .i64 104] 85 := (Blk.new w _ _).alloc _
    have K1 := Blk.new (w.alloc (.cells #[.int .i64 24, .int .i64 (-149), .int .i64 104] 85)) #[.int .i64 k', .bool g', .int .u64 m, .int .i64 e] 25
    have pr : Below w.heap.size w ((w.alloc (.cells #[.int .i64 24, .int .i64 (-149), .int .i64 104] 85)).alloc (.cells #[.int .i64 k', .bool g', .int .u64 m, .int .i64 e] 25)) := ((Below.refl _ _).alloc (Nat.le_refl _) _).alloc (by simp) _
    simp only [World.size_alloc] at K1
    go_wp2_with (first
      | (go_at_call 98; refine (hp _).mono ?_; rintro e w1 ⟨rfl, b1⟩; replace K0 := K0.below b1 K0.lt; replace K1 := K1.below b1 K1.lt; replace pr := bel pr b1; clear b1; have e0 : w1.cell? ⟨w.heap.size, 0, none⟩ = some (.int .i64 24) := K0.at 0; have e1 : w1.cell? ⟨w.heap.size, 1, none⟩ = some (.int .i64 (-149)) := K0.at 1; have e2 : w1.cell? ⟨w.heap.size, 2, none⟩ = some (.int .i64 104) := K0.at 2; have c0 : w1.cell? ⟨w.heap.size + 1, 0, none⟩ = some (.int .i64 k') := K1.at 0; have c1 : w1.cell? ⟨w.heap.size + 1, 1, none⟩ = some (.bool g') := K1.at 1; have c2 : w1.cell? ⟨w.heap.size + 1, 2, none⟩ = some (.int .u64 m) := K1.at 2; have c3 : w1.cell? ⟨w.heap.size + 1, 3, none⟩ = some (.int .i64 e) := K1.at 3)
      | fail)
    go_region_held3 (fun x => x.cell? ⟨w.heap.size, 0, none⟩ = some (.int .i64 24) ∧ x.cell? ⟨w.heap.size, 1, none⟩ = some (.int .i64 (-149)) ∧ x.cell? ⟨w.heap.size, 2, none⟩ = some (.int .i64 104) ∧ x.cell? ⟨w.heap.size + 1, 0, none⟩ = some (.int .i64 k') ∧ x.cell? ⟨w.heap.size + 1, 1, none⟩ = some (.bool g') ∧ x.cell? ⟨w.heap.size + 1, 2, none⟩ = some (.int .u64 m) ∧ x.cell? ⟨w.heap.size + 1, 3, none⟩ = some (.int .i64 e)) (go_keep) (first
      | (go_at_call 52; refine (hs _).mono ?_; rintro e w2 ⟨rfl, b2⟩; replace K0 := K0.below (below_undrew b2) K0.lt; replace K1 := K1.below (below_undrew b2) K1.lt; replace pr := bel pr (below_undrew b2); clear b2; have e0 : w2.cell? ⟨w.heap.size, 0, none⟩ = some (.int .i64 24) := K0.at 0; have e1 : w2.cell? ⟨w.heap.size, 1, none⟩ = some (.int .i64 (-149)) := K0.at 1; have e2 : w2.cell? ⟨w.heap.size, 2, none⟩ = some (.int .i64 104) := K0.at 2; have c0 : w2.cell? ⟨w.heap.size + 1, 0, none⟩ = some (.int .i64 k') := K1.at 0; have c1 : w2.cell? ⟨w.heap.size + 1, 1, none⟩ = some (.bool g') := K1.at 1; have c2 : w2.cell? ⟨w.heap.size + 1, 2, none⟩ = some (.int .u64 m) := K1.at 2; have c3 : w2.cell? ⟨w.heap.size + 1, 3, none⟩ = some (.int .i64 e) := K1.at 3)
      | fail)
    go_wp2
    exact bodyPost_ret (v := .tuple #[.int .u64 0, .int .i64 21]) (by simp [results, Try.results58, go_sem]) rfl ⟨rfl, pr⟩
  · go_enter Try.func58, Try.ntmps58
    have K0 : Blk ((w.alloc (.cells #[.int .i64 24, .int .i64 (-149), .int .i64 104] 85)).alloc (.cells #[.int .i64 k', .bool g', .int .u64 m', .int .i64 e] 25)) w.heap.size #[.int .i64 24, .int .i64 (-149), .int .i64 104] 85 := (Blk.new w _ _).alloc _
    have K1 := Blk.new (w.alloc (.cells #[.int .i64 24, .int .i64 (-149), .int .i64 104] 85)) #[.int .i64 k', .bool g', .int .u64 m', .int .i64 e] 25
    have pr : Below w.heap.size w ((w.alloc (.cells #[.int .i64 24, .int .i64 (-149), .int .i64 104] 85)).alloc (.cells #[.int .i64 k', .bool g', .int .u64 m', .int .i64 e] 25)) := ((Below.refl _ _).alloc (Nat.le_refl _) _).alloc (by simp) _
    simp only [World.size_alloc] at K1
    go_wp2_with (first
      | (go_at_call 98; refine (hp _).mono ?_; rintro e w1 ⟨rfl, b1⟩; replace K0 := K0.below b1 K0.lt; replace K1 := K1.below b1 K1.lt; replace pr := bel pr b1; clear b1; have e0 : w1.cell? ⟨w.heap.size, 0, none⟩ = some (.int .i64 24) := K0.at 0; have e1 : w1.cell? ⟨w.heap.size, 1, none⟩ = some (.int .i64 (-149)) := K0.at 1; have e2 : w1.cell? ⟨w.heap.size, 2, none⟩ = some (.int .i64 104) := K0.at 2; have c0 : w1.cell? ⟨w.heap.size + 1, 0, none⟩ = some (.int .i64 k') := K1.at 0; have c1 : w1.cell? ⟨w.heap.size + 1, 1, none⟩ = some (.bool g') := K1.at 1; have c2 : w1.cell? ⟨w.heap.size + 1, 2, none⟩ = some (.int .u64 m') := K1.at 2; have c3 : w1.cell? ⟨w.heap.size + 1, 3, none⟩ = some (.int .i64 e) := K1.at 3)
      | fail)
    go_region_held3 (fun x => x.cell? ⟨w.heap.size, 0, none⟩ = some (.int .i64 24) ∧ x.cell? ⟨w.heap.size, 1, none⟩ = some (.int .i64 (-149)) ∧ x.cell? ⟨w.heap.size, 2, none⟩ = some (.int .i64 104) ∧ x.cell? ⟨w.heap.size + 1, 0, none⟩ = some (.int .i64 k') ∧ x.cell? ⟨w.heap.size + 1, 1, none⟩ = some (.bool g') ∧ x.cell? ⟨w.heap.size + 1, 2, none⟩ = some (.int .u64 m') ∧ x.cell? ⟨w.heap.size + 1, 3, none⟩ = some (.int .i64 e)) (go_keep) (first
      | (go_at_call 52; refine (hs _).mono ?_; rintro e w2 ⟨rfl, b2⟩; replace K0 := K0.below (below_undrew b2) K0.lt; replace K1 := K1.below (below_undrew b2) K1.lt; replace pr := bel pr (below_undrew b2); clear b2; have e0 : w2.cell? ⟨w.heap.size, 0, none⟩ = some (.int .i64 24) := K0.at 0; have e1 : w2.cell? ⟨w.heap.size, 1, none⟩ = some (.int .i64 (-149)) := K0.at 1; have e2 : w2.cell? ⟨w.heap.size, 2, none⟩ = some (.int .i64 104) := K0.at 2; have c0 : w2.cell? ⟨w.heap.size + 1, 0, none⟩ = some (.int .i64 k') := K1.at 0; have c1 : w2.cell? ⟨w.heap.size + 1, 1, none⟩ = some (.bool g') := K1.at 1; have c2 : w2.cell? ⟨w.heap.size + 1, 2, none⟩ = some (.int .u64 m') := K1.at 2; have c3 : w2.cell? ⟨w.heap.size + 1, 3, none⟩ = some (.int .i64 e) := K1.at 3)
      | fail)
    go_wp2
    exact bodyPost_ret (v := .tuple #[.int .u64 0, .int .i64 21]) (by simp [results, Try.results58, go_sem]) rfl ⟨rfl, pr⟩
  · go_enter Try.func58, Try.ntmps58
    have K0 : Blk ((w.alloc (.cells #[.int .i64 24, .int .i64 (-149), .int .i64 104] 85)).alloc (.cells #[.int .i64 k', .bool g', .int .u64 m', .int .i64 e'] 25)) w.heap.size #[.int .i64 24, .int .i64 (-149), .int .i64 104] 85 := (Blk.new w _ _).alloc _
    have K1 := Blk.new (w.alloc (.cells #[.int .i64 24, .int .i64 (-149), .int .i64 104] 85)) #[.int .i64 k', .bool g', .int .u64 m', .int .i64 e'] 25
    have pr : Below w.heap.size w ((w.alloc (.cells #[.int .i64 24, .int .i64 (-149), .int .i64 104] 85)).alloc (.cells #[.int .i64 k', .bool g', .int .u64 m', .int .i64 e'] 25)) := ((Below.refl _ _).alloc (Nat.le_refl _) _).alloc (by simp) _
    simp only [World.size_alloc] at K1
    go_wp2_with (first
      | (go_at_call 98; refine (hp _).mono ?_; rintro e w1 ⟨rfl, b1⟩; replace K0 := K0.below b1 K0.lt; replace K1 := K1.below b1 K1.lt; replace pr := bel pr b1; clear b1; have e0 : w1.cell? ⟨w.heap.size, 0, none⟩ = some (.int .i64 24) := K0.at 0; have e1 : w1.cell? ⟨w.heap.size, 1, none⟩ = some (.int .i64 (-149)) := K0.at 1; have e2 : w1.cell? ⟨w.heap.size, 2, none⟩ = some (.int .i64 104) := K0.at 2; have c0 : w1.cell? ⟨w.heap.size + 1, 0, none⟩ = some (.int .i64 k') := K1.at 0; have c1 : w1.cell? ⟨w.heap.size + 1, 1, none⟩ = some (.bool g') := K1.at 1; have c2 : w1.cell? ⟨w.heap.size + 1, 2, none⟩ = some (.int .u64 m') := K1.at 2; have c3 : w1.cell? ⟨w.heap.size + 1, 3, none⟩ = some (.int .i64 e') := K1.at 3)
      | fail)
    go_region_held3 (fun x => x.cell? ⟨w.heap.size, 0, none⟩ = some (.int .i64 24) ∧ x.cell? ⟨w.heap.size, 1, none⟩ = some (.int .i64 (-149)) ∧ x.cell? ⟨w.heap.size, 2, none⟩ = some (.int .i64 104) ∧ x.cell? ⟨w.heap.size + 1, 0, none⟩ = some (.int .i64 k') ∧ x.cell? ⟨w.heap.size + 1, 1, none⟩ = some (.bool g') ∧ x.cell? ⟨w.heap.size + 1, 2, none⟩ = some (.int .u64 m') ∧ x.cell? ⟨w.heap.size + 1, 3, none⟩ = some (.int .i64 e')) (go_keep) (first
      | (go_at_call 52; refine (hs _).mono ?_; rintro e w2 ⟨rfl, b2⟩; replace K0 := K0.below (below_undrew b2) K0.lt; replace K1 := K1.below (below_undrew b2) K1.lt; replace pr := bel pr (below_undrew b2); clear b2; have e0 : w2.cell? ⟨w.heap.size, 0, none⟩ = some (.int .i64 24) := K0.at 0; have e1 : w2.cell? ⟨w.heap.size, 1, none⟩ = some (.int .i64 (-149)) := K0.at 1; have e2 : w2.cell? ⟨w.heap.size, 2, none⟩ = some (.int .i64 104) := K0.at 2; have c0 : w2.cell? ⟨w.heap.size + 1, 0, none⟩ = some (.int .i64 k') := K1.at 0; have c1 : w2.cell? ⟨w.heap.size + 1, 1, none⟩ = some (.bool g') := K1.at 1; have c2 : w2.cell? ⟨w.heap.size + 1, 2, none⟩ = some (.int .u64 m') := K1.at 2; have c3 : w2.cell? ⟨w.heap.size + 1, 3, none⟩ = some (.int .i64 e') := K1.at 3)
      | fail)
    go_wp2
    exact bodyPost_ret (v := .tuple #[.int .u64 N, .int .i64 0]) (by simp [results, Try.results58, go_sem]) rfl ⟨rfl, pr⟩
theorem join_s (p : Int × Bool × Int × Int) (h0 : 0 ≤ p.2.2.1) (h1 : p.2.2.1 < 18446744073709551616) (w : World) :
    Calls Try.prog 58 #[fmtS, prt4 p] w fun x w' => x = .returned (.tuple #[.int .u64 (joiS p).1, .int .i64 (joiS p).2]) ∧ Below w.heap.size w w' := by
  obtain ⟨N, n1, n2, P⟩ := pack_s p h0 h1
  have S := split_s N n1
  have o' := splS_ok N
  obtain ⟨k, g, m, e⟩ := p
  generalize hq : splS N = q at S o'
  obtain ⟨k', g', m', e'⟩ := q
  by_cases o : OkS (k, g, m, e)
  · have E : splS N = (k, g, m, e) := by
      have h := splS_pck o
      rw [← n2 o, Int.toNat_natCast] at h
      exact h
    rw [hq] at E
    simp only [Prod.mk.injEq] at E
    obtain ⟨rfl, rfl, rfl, rfl⟩ := E
    have H := join_s_walk k' g' m' e' N k' g' m' e' true P S (Or.inr (Or.inr (Or.inr (Or.inr ⟨rfl, rfl, rfl, rfl, rfl⟩)))) w
    rw [n2 o] at H
    unfold joiS
    rw [if_pos o]
    exact H
  · have ne : ¬ (k' = k ∧ g' = g ∧ m' = m ∧ e' = e) := by
      rintro ⟨rfl, rfl, rfl, rfl⟩
      exact o o'
    unfold joiS
    rw [if_neg o]
    refine join_s_walk k g m e N k' g' m' e' false P S ?_ w
    by_cases a1 : k' = k
    · by_cases a2 : g' = g
      · by_cases a3 : m' = m
        · exact Or.inr (Or.inr (Or.inr (Or.inl ⟨a1, a2, a3, by simp; exact fun h => ne ⟨a1, a2, a3, h⟩, rfl⟩)))
        · exact Or.inr (Or.inr (Or.inl ⟨a1, a2, by simp [a3], rfl⟩))
      · exact Or.inr (Or.inl ⟨a1, by simp [a2], rfl⟩)
    · exact Or.inl ⟨by simp [a1], rfl⟩
end Go.Proofs.Ytlngkonmalallaa
