import Derived.Test.YtbfaebaoekimhaaVf1
namespace Go.Proofs.Ytbfaebaoekimhaa.Vf
open Go.RowKit Tn

/-- A function's value. -/
def fv (n : Nat) : Value := .func (.func n) #[] #[]
/-- The kinds as they lie. -/
def kc : Array Value := #[.int .i64 1, .func (.func 16) #[] #[], .func (.func 16) #[] #[], .func (.func 17) #[] #[], .int .i64 2, .func (.func 16) #[] #[], .func (.func 18) #[] #[], .func (.func 16) #[] #[], .int .i64 3, .func (.func 16) #[] #[], .func (.func 18) #[] #[], .func (.func 17) #[] #[], .int .i64 4, .func (.func 17) #[] #[], .func (.func 16) #[] #[], .func (.func 16) #[] #[], .int .i64 5, .func (.func 16) #[] #[], .func (.func 17) #[] #[], .func (.func 16) #[] #[], .int .i64 6, .func (.func 16) #[] #[], .func (.func 16) #[] #[], .func (.func 19) #[] #[], .int .i64 7, .func (.func 16) #[] #[], .func (.func 16) #[] #[], .func (.func 20) #[] #[]]
set_option maxRecDepth 100000 in
theorem kinds_c (w : World) : Calls Try.prog 15 #[] w fun e w' => e = .returned (.slice (some ⟨w.heap.size, 0, none⟩) 7 7) ∧ w' = w.alloc (.cells kc 42) := by
  unfold kc
  go_enter Try.func15, Try.ntmps15
  go_wp2_with fail
  go_ret
  exact ⟨rfl, rfl⟩
theorem run_store_fn (P : Program) (w : World) (a : Addr) (fn : Fn) (x c : Array Value) (m : Mode) : (store a (.func fn x c) m).run P w = stored P w a (.func fn x c) m := run_store P w a _ m rfl
theorem run_store_nf (P : Program) (w : World) (a : Addr) (m : Mode) : (store a Value.nilFunc m).run P w = stored P w a Value.nilFunc m := run_store P w a _ m rfl
theorem bput {w : World} {n : Nat} {c : Array Value} {t : TypeId} (h : Blk w n c t) (i : Nat) (v : Value) : Blk (w.setCell ⟨n, i, none⟩ v) n (c.setIfInBounds i v) t := by
  have h' : w.heap[n]? = some (.cells c t (0, 0)) := h
  show (w.setCell ⟨n, i, none⟩ v).heap[n]? = _
  simp [World.setCell, Array.getElem?_modify, h']
theorem bput4 {w : World} {n : Nat} {c : Array Value} {t : TypeId} (h : Blk w n c t) (p q r s : Value) : Blk ((((w.setCell ⟨n, 0, none⟩ p).setCell ⟨n, 1, none⟩ q).setCell ⟨n, 2, none⟩ r).setCell ⟨n, 3, none⟩ s) n ((((c.setIfInBounds 0 p).setIfInBounds 1 q).setIfInBounds 2 r).setIfInBounds 3 s) t := bput (bput (bput (bput h 0 p) 1 q) 2 r) 3 s
theorem set4 {B : Nat} {x W : World} {n : Nat} {p q r s : Value} (h : Below B x W) (hn : B ≤ n) : Below B x ((((W.setCell ⟨n, 0, none⟩ p).setCell ⟨n, 1, none⟩ q).setCell ⟨n, 2, none⟩ r).setCell ⟨n, 3, none⟩ s) :=
  (((h.setCell (p := ⟨n, 0, none⟩) hn p).setCell (p := ⟨n, 1, none⟩) hn q).setCell (p := ⟨n, 2, none⟩) hn r).setCell (p := ⟨n, 3, none⟩) hn s
/-- The functions of a kind. -/
def kd (K : Int) : Option (Nat × Nat × Nat) :=
  if K = 1 then some (16, 16, 17) else if K = 2 then some (16, 18, 16) else if K = 3 then some (16, 18, 17) else if K = 4 then some (17, 16, 16) else if K = 5 then some (16, 17, 16) else if K = 6 then some (16, 16, 19) else if K = 7 then some (16, 16, 20) else none
/-- What kindOf answers. -/
def ka (K : Int) : Value := match kd K with
  | some (a, b, c) => .tuple #[.agg #[.int .i64 K, fv a, fv b, fv c], .bool true]
  | none => .tuple #[.agg #[.int .i64 0, Value.nilFunc, Value.nilFunc, Value.nilFunc], .bool false]
set_option maxRecDepth 100000 in
set_option maxHeartbeats 1600000 in
theorem kindOf_c (K : Int) (w : World) : Calls Try.prog 11 #[.int .i64 K] w fun e w' => e = .returned (ka K) ∧ Below w.heap.size w w' := by
  have C := fun x => kinds_c x
  have sf := fun w a fn x c m => run_store_fn Try.prog w a fn x c m
  have sn := fun w a m => run_store_nf Try.prog w a m
  have K0 := Blk.new w #[.int .i64 0, Value.nilFunc, Value.nilFunc, Value.nilFunc] 42
  have pr := bl (w := w) #[.int .i64 0, Value.nilFunc, Value.nilFunc, Value.nilFunc] 42
  have KK := Blk.new (w.alloc (.cells #[.int .i64 0, Value.nilFunc, Value.nilFunc, Value.nilFunc] 42)) kc 42
  have K1 := K0.alloc (.cells kc 42)
  have p1 := belT pr (bl kc 42)
  simp only [World.size_alloc] at KK
  go_enter Try.func11, Try.ntmps11
  go_wp2_with (first | (go_at_call 15; (refine (C _).mono ?_); (rintro e w1 ⟨rfl, hw1⟩); subst w1) | fail)
  generalize (w.alloc (.cells #[.int .i64 0, Value.nilFunc, Value.nilFunc, Value.nilFunc] 42)).alloc (.cells kc 42) = W at *
  clear C K0 pr
  go_loopw [8] (fun t wr => ∃ i : Nat, i ≤ 7 ∧ t = .int .i64 (i : Int) ∧ (∀ j : Nat, j < i → (j : Int) + 1 ≠ K) ∧ Blk wr w.heap.size #[.int .i64 0, Value.nilFunc, Value.nilFunc, Value.nilFunc] 42 ∧ Blk wr (w.heap.size + 1) kc 42 ∧ Below w.heap.size w wr) (fun t _ => ((7 : Int) - RowKit.intOf t).toNat)
  case atStart => exact ⟨0, by omega, rfl, fun j hj => absurd hj (by omega), K1, KK, p1⟩
  case round =>
    clear K1 KK p1
    obtain ⟨i, hi, rfl, ne, K1, KK, p1⟩ := hrel
    have NE : Hid _ := ne
    clear ne
    by_cases h7 : i = 7
    · subst h7
      have y0 := K1.free 0
      have y1 := K1.free 1
      have y2 := K1.free 2
      have y3 := K1.free 3
      have z0 := K1.at 0
      have z1 := K1.at 1
      have z2 := K1.at 2
      have z3 := K1.at 3
      simp at z0 z1 z2 z3
      clear hi
      go_wp2_with fail
      have hk : kd K = none := by
        have := NE.out
        have h0 := this 0; have h1 := this 1; have h2 := this 2; have h3 := this 3; have h4 := this 4; have h5 := this 5; have h6 := this 6
        simp at h0 h1 h2 h3 h4 h5 h6
        unfold kd
        rw [if_neg (by omega), if_neg (by omega), if_neg (by omega), if_neg (by omega), if_neg (by omega), if_neg (by omega), if_neg (by omega)]
      have F := bput4 K1 (.int .i64 0) Value.nilFunc Value.nilFunc Value.nilFunc
      have F0 := F.at 0
      have F1 := F.at 1
      have F2 := F.at 2
      have F3 := F.at 3
      simp at F0 F1 F2 F3
      exact bodyPost_ret (v := .tuple #[.agg #[.int .i64 0, Value.nilFunc, Value.nilFunc, Value.nilFunc], .bool false]) (by simp [results, Try.results11, go_sem, F0, F1, F2, F3]) rfl ⟨by unfold ka; rw [hk], set4 p1 (Nat.le_refl _)⟩
    · have K2 := fun a b c d => KK.alloc (.cells #[a, b, c, d] 42)
      have NB := fun a b c d => Blk.new wr #[a, b, c, d] 42
      have K3 := fun a b c d => K1.alloc (.cells #[a, b, c, d] 42)
      have hlt := KK.lt
      rcases (show i = 0 ∨ i = 1 ∨ i = 2 ∨ i = 3 ∨ i = 4 ∨ i = 5 ∨ i = 6 by omega) with rfl | rfl | rfl | rfl | rfl | rfl | rfl
      · have x0 : wr.cell? ⟨w.heap.size + 1, 0, none⟩ = some (.int .i64 1) := KK.at 0
        have x1 : wr.cell? ⟨w.heap.size + 1, 1, none⟩ = some (.func (.func 16) #[] #[]) := KK.at 1
        have x2 : wr.cell? ⟨w.heap.size + 1, 2, none⟩ = some (.func (.func 16) #[] #[]) := KK.at 2
        have x3 : wr.cell? ⟨w.heap.size + 1, 3, none⟩ = some (.func (.func 17) #[] #[]) := KK.at 3
        have V := NB (.int .i64 1) (.func (.func 16) #[] #[]) (.func (.func 16) #[] #[]) (.func (.func 17) #[] #[])
        have V1 := K2 (.int .i64 1) (.func (.func 16) #[] #[]) (.func (.func 16) #[] #[]) (.func (.func 17) #[] #[])
        have V2 := K3 (.int .i64 1) (.func (.func 16) #[] #[]) (.func (.func 16) #[] #[]) (.func (.func 17) #[] #[])
        have pw := belT p1 (bl #[.int .i64 1, .func (.func 16) #[] #[], .func (.func 16) #[] #[], .func (.func 17) #[] #[]] 42)
        clear K2 K3 NB KK K1 p1 hi h7
        by_cases hK : (1 : Int) = K
        · subst hK
          have v0 := V.at 0
          have v1 := V.at 1
          have v2 := V.at 2
          have v3 := V.at 3
          have y0 := V2.free 0
          have y1 := V2.free 1
          have y2 := V2.free 2
          have y3 := V2.free 3
          have z0 := V2.at 0
          have z1 := V2.at 1
          have z2 := V2.at 2
          have z3 := V2.at 3
          simp at z0 z1 z2 z3 v0 v1 v2 v3
          go_wp2_with fail
          have F := bput4 V2 (.int .i64 1) (.func (.func 16) #[] #[]) (.func (.func 16) #[] #[]) (.func (.func 17) #[] #[])
          have F0 := F.at 0
          have F1 := F.at 1
          have F2 := F.at 2
          have F3 := F.at 3
          simp at F0 F1 F2 F3
          exact bodyPost_ret (v := .tuple #[.agg #[.int .i64 1, .func (.func 16) #[] #[], .func (.func 16) #[] #[], .func (.func 17) #[] #[]], .bool true]) (by simp [results, Try.results11, go_sem, F0, F1, F2, F3]) rfl ⟨rfl, set4 pw (Nat.le_refl _)⟩
        · have v0 := V.at 0
          simp at v0
          clear V
          go_wp2_with fail
          go_roundw
          case rel => exact ⟨1, by omega, rfl, fun j hj => by by_cases e : j = 0; (subst e; exact hK); (exact NE.out j (by omega)), V2, V1, pw⟩
          case measure => simp [RowKit.intOf]
      · have x0 : wr.cell? ⟨w.heap.size + 1, 4, none⟩ = some (.int .i64 2) := KK.at 4
        have x1 : wr.cell? ⟨w.heap.size + 1, 5, none⟩ = some (.func (.func 16) #[] #[]) := KK.at 5
        have x2 : wr.cell? ⟨w.heap.size + 1, 6, none⟩ = some (.func (.func 18) #[] #[]) := KK.at 6
        have x3 : wr.cell? ⟨w.heap.size + 1, 7, none⟩ = some (.func (.func 16) #[] #[]) := KK.at 7
        have V := NB (.int .i64 2) (.func (.func 16) #[] #[]) (.func (.func 18) #[] #[]) (.func (.func 16) #[] #[])
        have V1 := K2 (.int .i64 2) (.func (.func 16) #[] #[]) (.func (.func 18) #[] #[]) (.func (.func 16) #[] #[])
        have V2 := K3 (.int .i64 2) (.func (.func 16) #[] #[]) (.func (.func 18) #[] #[]) (.func (.func 16) #[] #[])
        have pw := belT p1 (bl #[.int .i64 2, .func (.func 16) #[] #[], .func (.func 18) #[] #[], .func (.func 16) #[] #[]] 42)
        clear K2 K3 NB KK K1 p1 hi h7
        by_cases hK : (2 : Int) = K
        · subst hK
          have v0 := V.at 0
          have v1 := V.at 1
          have v2 := V.at 2
          have v3 := V.at 3
          have y0 := V2.free 0
          have y1 := V2.free 1
          have y2 := V2.free 2
          have y3 := V2.free 3
          have z0 := V2.at 0
          have z1 := V2.at 1
          have z2 := V2.at 2
          have z3 := V2.at 3
          simp at z0 z1 z2 z3 v0 v1 v2 v3
          go_wp2_with fail
          have F := bput4 V2 (.int .i64 2) (.func (.func 16) #[] #[]) (.func (.func 18) #[] #[]) (.func (.func 16) #[] #[])
          have F0 := F.at 0
          have F1 := F.at 1
          have F2 := F.at 2
          have F3 := F.at 3
          simp at F0 F1 F2 F3
          exact bodyPost_ret (v := .tuple #[.agg #[.int .i64 2, .func (.func 16) #[] #[], .func (.func 18) #[] #[], .func (.func 16) #[] #[]], .bool true]) (by simp [results, Try.results11, go_sem, F0, F1, F2, F3]) rfl ⟨rfl, set4 pw (Nat.le_refl _)⟩
        · have v0 := V.at 0
          simp at v0
          clear V
          go_wp2_with fail
          go_roundw
          case rel => exact ⟨2, by omega, rfl, fun j hj => by by_cases e : j = 1; (subst e; exact hK); (exact NE.out j (by omega)), V2, V1, pw⟩
          case measure => simp [RowKit.intOf]
      · have x0 : wr.cell? ⟨w.heap.size + 1, 8, none⟩ = some (.int .i64 3) := KK.at 8
        have x1 : wr.cell? ⟨w.heap.size + 1, 9, none⟩ = some (.func (.func 16) #[] #[]) := KK.at 9
        have x2 : wr.cell? ⟨w.heap.size + 1, 10, none⟩ = some (.func (.func 18) #[] #[]) := KK.at 10
        have x3 : wr.cell? ⟨w.heap.size + 1, 11, none⟩ = some (.func (.func 17) #[] #[]) := KK.at 11
        have V := NB (.int .i64 3) (.func (.func 16) #[] #[]) (.func (.func 18) #[] #[]) (.func (.func 17) #[] #[])
        have V1 := K2 (.int .i64 3) (.func (.func 16) #[] #[]) (.func (.func 18) #[] #[]) (.func (.func 17) #[] #[])
        have V2 := K3 (.int .i64 3) (.func (.func 16) #[] #[]) (.func (.func 18) #[] #[]) (.func (.func 17) #[] #[])
        have pw := belT p1 (bl #[.int .i64 3, .func (.func 16) #[] #[], .func (.func 18) #[] #[], .func (.func 17) #[] #[]] 42)
        clear K2 K3 NB KK K1 p1 hi h7
        by_cases hK : (3 : Int) = K
        · subst hK
          have v0 := V.at 0
          have v1 := V.at 1
          have v2 := V.at 2
          have v3 := V.at 3
          have y0 := V2.free 0
          have y1 := V2.free 1
          have y2 := V2.free 2
          have y3 := V2.free 3
          have z0 := V2.at 0
          have z1 := V2.at 1
          have z2 := V2.at 2
          have z3 := V2.at 3
          simp at z0 z1 z2 z3 v0 v1 v2 v3
          go_wp2_with fail
          have F := bput4 V2 (.int .i64 3) (.func (.func 16) #[] #[]) (.func (.func 18) #[] #[]) (.func (.func 17) #[] #[])
          have F0 := F.at 0
          have F1 := F.at 1
          have F2 := F.at 2
          have F3 := F.at 3
          simp at F0 F1 F2 F3
          exact bodyPost_ret (v := .tuple #[.agg #[.int .i64 3, .func (.func 16) #[] #[], .func (.func 18) #[] #[], .func (.func 17) #[] #[]], .bool true]) (by simp [results, Try.results11, go_sem, F0, F1, F2, F3]) rfl ⟨rfl, set4 pw (Nat.le_refl _)⟩
        · have v0 := V.at 0
          simp at v0
          clear V
          go_wp2_with fail
          go_roundw
          case rel => exact ⟨3, by omega, rfl, fun j hj => by by_cases e : j = 2; (subst e; exact hK); (exact NE.out j (by omega)), V2, V1, pw⟩
          case measure => simp [RowKit.intOf]
      · have x0 : wr.cell? ⟨w.heap.size + 1, 12, none⟩ = some (.int .i64 4) := KK.at 12
        have x1 : wr.cell? ⟨w.heap.size + 1, 13, none⟩ = some (.func (.func 17) #[] #[]) := KK.at 13
        have x2 : wr.cell? ⟨w.heap.size + 1, 14, none⟩ = some (.func (.func 16) #[] #[]) := KK.at 14
        have x3 : wr.cell? ⟨w.heap.size + 1, 15, none⟩ = some (.func (.func 16) #[] #[]) := KK.at 15
        have V := NB (.int .i64 4) (.func (.func 17) #[] #[]) (.func (.func 16) #[] #[]) (.func (.func 16) #[] #[])
        have V1 := K2 (.int .i64 4) (.func (.func 17) #[] #[]) (.func (.func 16) #[] #[]) (.func (.func 16) #[] #[])
        have V2 := K3 (.int .i64 4) (.func (.func 17) #[] #[]) (.func (.func 16) #[] #[]) (.func (.func 16) #[] #[])
        have pw := belT p1 (bl #[.int .i64 4, .func (.func 17) #[] #[], .func (.func 16) #[] #[], .func (.func 16) #[] #[]] 42)
        clear K2 K3 NB KK K1 p1 hi h7
        by_cases hK : (4 : Int) = K
        · subst hK
          have v0 := V.at 0
          have v1 := V.at 1
          have v2 := V.at 2
          have v3 := V.at 3
          have y0 := V2.free 0
          have y1 := V2.free 1
          have y2 := V2.free 2
          have y3 := V2.free 3
          have z0 := V2.at 0
          have z1 := V2.at 1
          have z2 := V2.at 2
          have z3 := V2.at 3
          simp at z0 z1 z2 z3 v0 v1 v2 v3
          go_wp2_with fail
          have F := bput4 V2 (.int .i64 4) (.func (.func 17) #[] #[]) (.func (.func 16) #[] #[]) (.func (.func 16) #[] #[])
          have F0 := F.at 0
          have F1 := F.at 1
          have F2 := F.at 2
          have F3 := F.at 3
          simp at F0 F1 F2 F3
          exact bodyPost_ret (v := .tuple #[.agg #[.int .i64 4, .func (.func 17) #[] #[], .func (.func 16) #[] #[], .func (.func 16) #[] #[]], .bool true]) (by simp [results, Try.results11, go_sem, F0, F1, F2, F3]) rfl ⟨rfl, set4 pw (Nat.le_refl _)⟩
        · have v0 := V.at 0
          simp at v0
          clear V
          go_wp2_with fail
          go_roundw
          case rel => exact ⟨4, by omega, rfl, fun j hj => by by_cases e : j = 3; (subst e; exact hK); (exact NE.out j (by omega)), V2, V1, pw⟩
          case measure => simp [RowKit.intOf]
      · have x0 : wr.cell? ⟨w.heap.size + 1, 16, none⟩ = some (.int .i64 5) := KK.at 16
        have x1 : wr.cell? ⟨w.heap.size + 1, 17, none⟩ = some (.func (.func 16) #[] #[]) := KK.at 17
        have x2 : wr.cell? ⟨w.heap.size + 1, 18, none⟩ = some (.func (.func 17) #[] #[]) := KK.at 18
        have x3 : wr.cell? ⟨w.heap.size + 1, 19, none⟩ = some (.func (.func 16) #[] #[]) := KK.at 19
        have V := NB (.int .i64 5) (.func (.func 16) #[] #[]) (.func (.func 17) #[] #[]) (.func (.func 16) #[] #[])
        have V1 := K2 (.int .i64 5) (.func (.func 16) #[] #[]) (.func (.func 17) #[] #[]) (.func (.func 16) #[] #[])
        have V2 := K3 (.int .i64 5) (.func (.func 16) #[] #[]) (.func (.func 17) #[] #[]) (.func (.func 16) #[] #[])
        have pw := belT p1 (bl #[.int .i64 5, .func (.func 16) #[] #[], .func (.func 17) #[] #[], .func (.func 16) #[] #[]] 42)
        clear K2 K3 NB KK K1 p1 hi h7
        by_cases hK : (5 : Int) = K
        · subst hK
          have v0 := V.at 0
          have v1 := V.at 1
          have v2 := V.at 2
          have v3 := V.at 3
          have y0 := V2.free 0
          have y1 := V2.free 1
          have y2 := V2.free 2
          have y3 := V2.free 3
          have z0 := V2.at 0
          have z1 := V2.at 1
          have z2 := V2.at 2
          have z3 := V2.at 3
          simp at z0 z1 z2 z3 v0 v1 v2 v3
          go_wp2_with fail
          have F := bput4 V2 (.int .i64 5) (.func (.func 16) #[] #[]) (.func (.func 17) #[] #[]) (.func (.func 16) #[] #[])
          have F0 := F.at 0
          have F1 := F.at 1
          have F2 := F.at 2
          have F3 := F.at 3
          simp at F0 F1 F2 F3
          exact bodyPost_ret (v := .tuple #[.agg #[.int .i64 5, .func (.func 16) #[] #[], .func (.func 17) #[] #[], .func (.func 16) #[] #[]], .bool true]) (by simp [results, Try.results11, go_sem, F0, F1, F2, F3]) rfl ⟨rfl, set4 pw (Nat.le_refl _)⟩
        · have v0 := V.at 0
          simp at v0
          clear V
          go_wp2_with fail
          go_roundw
          case rel => exact ⟨5, by omega, rfl, fun j hj => by by_cases e : j = 4; (subst e; exact hK); (exact NE.out j (by omega)), V2, V1, pw⟩
          case measure => simp [RowKit.intOf]
      · have x0 : wr.cell? ⟨w.heap.size + 1, 20, none⟩ = some (.int .i64 6) := KK.at 20
        have x1 : wr.cell? ⟨w.heap.size + 1, 21, none⟩ = some (.func (.func 16) #[] #[]) := KK.at 21
        have x2 : wr.cell? ⟨w.heap.size + 1, 22, none⟩ = some (.func (.func 16) #[] #[]) := KK.at 22
        have x3 : wr.cell? ⟨w.heap.size + 1, 23, none⟩ = some (.func (.func 19) #[] #[]) := KK.at 23
        have V := NB (.int .i64 6) (.func (.func 16) #[] #[]) (.func (.func 16) #[] #[]) (.func (.func 19) #[] #[])
        have V1 := K2 (.int .i64 6) (.func (.func 16) #[] #[]) (.func (.func 16) #[] #[]) (.func (.func 19) #[] #[])
        have V2 := K3 (.int .i64 6) (.func (.func 16) #[] #[]) (.func (.func 16) #[] #[]) (.func (.func 19) #[] #[])
        have pw := belT p1 (bl #[.int .i64 6, .func (.func 16) #[] #[], .func (.func 16) #[] #[], .func (.func 19) #[] #[]] 42)
        clear K2 K3 NB KK K1 p1 hi h7
        by_cases hK : (6 : Int) = K
        · subst hK
          have v0 := V.at 0
          have v1 := V.at 1
          have v2 := V.at 2
          have v3 := V.at 3
          have y0 := V2.free 0
          have y1 := V2.free 1
          have y2 := V2.free 2
          have y3 := V2.free 3
          have z0 := V2.at 0
          have z1 := V2.at 1
          have z2 := V2.at 2
          have z3 := V2.at 3
          simp at z0 z1 z2 z3 v0 v1 v2 v3
          go_wp2_with fail
          have F := bput4 V2 (.int .i64 6) (.func (.func 16) #[] #[]) (.func (.func 16) #[] #[]) (.func (.func 19) #[] #[])
          have F0 := F.at 0
          have F1 := F.at 1
          have F2 := F.at 2
          have F3 := F.at 3
          simp at F0 F1 F2 F3
          exact bodyPost_ret (v := .tuple #[.agg #[.int .i64 6, .func (.func 16) #[] #[], .func (.func 16) #[] #[], .func (.func 19) #[] #[]], .bool true]) (by simp [results, Try.results11, go_sem, F0, F1, F2, F3]) rfl ⟨rfl, set4 pw (Nat.le_refl _)⟩
        · have v0 := V.at 0
          simp at v0
          clear V
          go_wp2_with fail
          go_roundw
          case rel => exact ⟨6, by omega, rfl, fun j hj => by by_cases e : j = 5; (subst e; exact hK); (exact NE.out j (by omega)), V2, V1, pw⟩
          case measure => simp [RowKit.intOf]
      · have x0 : wr.cell? ⟨w.heap.size + 1, 24, none⟩ = some (.int .i64 7) := KK.at 24
        have x1 : wr.cell? ⟨w.heap.size + 1, 25, none⟩ = some (.func (.func 16) #[] #[]) := KK.at 25
        have x2 : wr.cell? ⟨w.heap.size + 1, 26, none⟩ = some (.func (.func 16) #[] #[]) := KK.at 26
        have x3 : wr.cell? ⟨w.heap.size + 1, 27, none⟩ = some (.func (.func 20) #[] #[]) := KK.at 27
        have V := NB (.int .i64 7) (.func (.func 16) #[] #[]) (.func (.func 16) #[] #[]) (.func (.func 20) #[] #[])
        have V1 := K2 (.int .i64 7) (.func (.func 16) #[] #[]) (.func (.func 16) #[] #[]) (.func (.func 20) #[] #[])
        have V2 := K3 (.int .i64 7) (.func (.func 16) #[] #[]) (.func (.func 16) #[] #[]) (.func (.func 20) #[] #[])
        have pw := belT p1 (bl #[.int .i64 7, .func (.func 16) #[] #[], .func (.func 16) #[] #[], .func (.func 20) #[] #[]] 42)
        clear K2 K3 NB KK K1 p1 hi h7
        by_cases hK : (7 : Int) = K
        · subst hK
          have v0 := V.at 0
          have v1 := V.at 1
          have v2 := V.at 2
          have v3 := V.at 3
          have y0 := V2.free 0
          have y1 := V2.free 1
          have y2 := V2.free 2
          have y3 := V2.free 3
          have z0 := V2.at 0
          have z1 := V2.at 1
          have z2 := V2.at 2
          have z3 := V2.at 3
          simp at z0 z1 z2 z3 v0 v1 v2 v3
          go_wp2_with fail
          have F := bput4 V2 (.int .i64 7) (.func (.func 16) #[] #[]) (.func (.func 16) #[] #[]) (.func (.func 20) #[] #[])
          have F0 := F.at 0
          have F1 := F.at 1
          have F2 := F.at 2
          have F3 := F.at 3
          simp at F0 F1 F2 F3
          exact bodyPost_ret (v := .tuple #[.agg #[.int .i64 7, .func (.func 16) #[] #[], .func (.func 16) #[] #[], .func (.func 20) #[] #[]], .bool true]) (by simp [results, Try.results11, go_sem, F0, F1, F2, F3]) rfl ⟨rfl, set4 pw (Nat.le_refl _)⟩
        · have v0 := V.at 0
          simp at v0
          clear V
          go_wp2_with fail
          go_roundw
          case rel => exact ⟨7, by omega, rfl, fun j hj => by by_cases e : j = 6; (subst e; exact hK); (exact NE.out j (by omega)), V2, V1, pw⟩
          case measure => simp [RowKit.intOf]
end Go.Proofs.Ytbfaebaoekimhaa.Vf
