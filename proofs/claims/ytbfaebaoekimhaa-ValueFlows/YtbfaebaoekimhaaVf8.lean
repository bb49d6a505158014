import Derived.Test.YtbfaebaoekimhaaVf1
namespace Go.Proofs.Ytbfaebaoekimhaa.Vf
open Go.RowKit Tn

/-- What a benefit pays at a time. -/
def rp (K W T S k t : Int) : Int := match K with
  | 1 => if t = k + 1 ∧ W ≤ k ∧ k < W + T then 1 else 0
  | 2 => if t = W + T ∧ W + T ≤ k then 1 else 0
  | 3 => (if t = k + 1 ∧ W ≤ k ∧ k < W + T then 1 else 0) + (if t = W + T ∧ W + T ≤ k then 1 else 0)
  | 4 => if W ≤ t ∧ t < W + T ∧ (t ≤ k ∨ t < W + S) then 1 else 0
  | 5 => if W < t ∧ t ≤ W + T ∧ (t ≤ k ∨ t ≤ W + S) then 1 else 0
  | 6 => if t = k + 1 ∧ W ≤ k ∧ k < W + T then k - W + 1 else 0
  | 7 => if t = k + 1 ∧ W ≤ k ∧ k < W + T then W + T - k else 0
  | _ => 0
set_option maxRecDepth 100000 in
set_option maxHeartbeats 3200000 in
theorem Pays_1 (W T S k t : Int) (w : World) (hW : 0 ≤ W ∧ W ≤ 130) (hT : 1 ≤ T ∧ T ≤ 130) (hk : 0 ≤ k ∧ k ≤ 130) :
    Calls Try.prog 13 #[.agg #[.int .i64 1, .int .i64 W, .int .i64 T, .int .i64 S], .int .i64 k, .int .i64 t] w fun e w' => e = .returned (.int .i64 (rp 1 W T S k t)) ∧ Below w.heap.size w w' := by
  have K0 := Bb.new w 1 W T S
  have pr := bl (w := w) #[.int .i64 1, .int .i64 W, .int .i64 T, .int .i64 S] 23
  have q0 := K0.c0
  have q1 := K0.c1
  have q2 := K0.c2
  have q3 := K0.c3
  have e1 : IntKind.i64.wrap (W + T) = W + T := wrapI _ (by omega) (by omega)
  have e2 : IntKind.i64.wrap (k + 1) = k + 1 := wrapI _ (by omega) (by omega)
  clear K0 hW hT hk
  go_enter Try.func13, Try.ntmps13
  go_wp2_with fail
  all_goals
    go_ret
    refine ⟨?_, pr⟩
    show Ending.returned (Value.int IntKind.i64 _) = _
    congr 2
    symm
    simp only [rp]
    first | rw [if_pos (by omega)] | rw [if_neg (by omega)]
set_option maxRecDepth 100000 in
set_option maxHeartbeats 3200000 in
theorem Pays_2 (W T S k t : Int) (w : World) (hW : 0 ≤ W ∧ W ≤ 130) (hT : 1 ≤ T ∧ T ≤ 130) (hk : 0 ≤ k ∧ k ≤ 130) :
    Calls Try.prog 13 #[.agg #[.int .i64 2, .int .i64 W, .int .i64 T, .int .i64 S], .int .i64 k, .int .i64 t] w fun e w' => e = .returned (.int .i64 (rp 2 W T S k t)) ∧ Below w.heap.size w w' := by
  have K0 := Bb.new w 2 W T S
  have pr := bl (w := w) #[.int .i64 2, .int .i64 W, .int .i64 T, .int .i64 S] 23
  have q0 := K0.c0
  have q1 := K0.c1
  have q2 := K0.c2
  have q3 := K0.c3
  have e1 : IntKind.i64.wrap (W + T) = W + T := wrapI _ (by omega) (by omega)
  have e2 : IntKind.i64.wrap (k + 1) = k + 1 := wrapI _ (by omega) (by omega)
  clear K0 hW hT hk
  go_enter Try.func13, Try.ntmps13
  go_wp2_with fail
  all_goals
    go_ret
    refine ⟨?_, pr⟩
    show Ending.returned (Value.int IntKind.i64 _) = _
    congr 2
    symm
    simp only [rp]
    first | rw [if_pos (by omega)] | rw [if_neg (by omega)]
set_option maxRecDepth 100000 in
set_option maxHeartbeats 3200000 in
theorem Pays_3 (W T S k t : Int) (w : World) (hW : 0 ≤ W ∧ W ≤ 130) (hT : 1 ≤ T ∧ T ≤ 130) (hk : 0 ≤ k ∧ k ≤ 130) :
    Calls Try.prog 13 #[.agg #[.int .i64 3, .int .i64 W, .int .i64 T, .int .i64 S], .int .i64 k, .int .i64 t] w fun e w' => e = .returned (.int .i64 (rp 3 W T S k t)) ∧ Below w.heap.size w w' := by
  have K0 := Bb.new w 3 W T S
  have pr := bl (w := w) #[.int .i64 3, .int .i64 W, .int .i64 T, .int .i64 S] 23
  have q0 := K0.c0
  have q1 := K0.c1
  have q2 := K0.c2
  have q3 := K0.c3
  have e1 : IntKind.i64.wrap (W + T) = W + T := wrapI _ (by omega) (by omega)
  have e2 : IntKind.i64.wrap (k + 1) = k + 1 := wrapI _ (by omega) (by omega)
  clear K0 hW hT hk
  go_enter Try.func13, Try.ntmps13
  go_wp2_with fail
  all_goals
    go_ret
    refine ⟨?_, pr⟩
    show Ending.returned (Value.int IntKind.i64 _) = _
    congr 2
    symm
    simp only [rp]
    first | (rw [if_pos (by omega), if_neg (by omega)]; rfl) | (rw [if_neg (by omega), if_pos (by omega)]; rfl) | (rw [if_neg (by omega), if_neg (by omega)]; rfl)
set_option maxRecDepth 100000 in
set_option maxHeartbeats 3200000 in
theorem Pays_4 (W T S k t : Int) (w : World) (hW : 0 ≤ W ∧ W ≤ 130) (hT : 1 ≤ T ∧ T ≤ 130) (hS : 0 ≤ S ∧ S ≤ 130) (hk : 0 ≤ k ∧ k ≤ 130) :
    Calls Try.prog 13 #[.agg #[.int .i64 4, .int .i64 W, .int .i64 T, .int .i64 S], .int .i64 k, .int .i64 t] w fun e w' => e = .returned (.int .i64 (rp 4 W T S k t)) ∧ Below w.heap.size w w' := by
  have K0 := Bb.new w 4 W T S
  have pr := bl (w := w) #[.int .i64 4, .int .i64 W, .int .i64 T, .int .i64 S] 23
  have q0 := K0.c0
  have q1 := K0.c1
  have q2 := K0.c2
  have q3 := K0.c3
  have e1 : IntKind.i64.wrap (W + T) = W + T := wrapI _ (by omega) (by omega)
  have e2 : IntKind.i64.wrap (k + 1) = k + 1 := wrapI _ (by omega) (by omega)
  have e3 : IntKind.i64.wrap (W + S) = W + S := wrapI _ (by omega) (by omega)
  clear K0 hW hT hS hk
  go_enter Try.func13, Try.ntmps13
  go_wp2_with fail
  all_goals
    go_ret
    refine ⟨?_, pr⟩
    show Ending.returned (Value.int IntKind.i64 _) = _
    congr 2
    symm
    simp only [rp]
    first | rw [if_pos (by omega)] | rw [if_neg (by omega)]
set_option maxRecDepth 100000 in
set_option maxHeartbeats 3200000 in
theorem Pays_5 (W T S k t : Int) (w : World) (hW : 0 ≤ W ∧ W ≤ 130) (hT : 1 ≤ T ∧ T ≤ 130) (hS : 0 ≤ S ∧ S ≤ 130) (hk : 0 ≤ k ∧ k ≤ 130) :
    Calls Try.prog 13 #[.agg #[.int .i64 5, .int .i64 W, .int .i64 T, .int .i64 S], .int .i64 k, .int .i64 t] w fun e w' => e = .returned (.int .i64 (rp 5 W T S k t)) ∧ Below w.heap.size w w' := by
  have K0 := Bb.new w 5 W T S
  have pr := bl (w := w) #[.int .i64 5, .int .i64 W, .int .i64 T, .int .i64 S] 23
  have q0 := K0.c0
  have q1 := K0.c1
  have q2 := K0.c2
  have q3 := K0.c3
  have e1 : IntKind.i64.wrap (W + T) = W + T := wrapI _ (by omega) (by omega)
  have e2 : IntKind.i64.wrap (k + 1) = k + 1 := wrapI _ (by omega) (by omega)
  have e3 : IntKind.i64.wrap (W + S) = W + S := wrapI _ (by omega) (by omega)
  clear K0 hW hT hS hk
  go_enter Try.func13, Try.ntmps13
  go_wp2_with fail
  all_goals
    go_ret
    refine ⟨?_, pr⟩
    show Ending.returned (Value.int IntKind.i64 _) = _
    congr 2
    symm
    simp only [rp]
    first | rw [if_pos (by omega)] | rw [if_neg (by omega)]
set_option maxRecDepth 100000 in
set_option maxHeartbeats 3200000 in
theorem Pays_6 (W T S k t : Int) (w : World) (hW : 0 ≤ W ∧ W ≤ 130) (hT : 1 ≤ T ∧ T ≤ 130) (hk : 0 ≤ k ∧ k ≤ 130) :
    Calls Try.prog 13 #[.agg #[.int .i64 6, .int .i64 W, .int .i64 T, .int .i64 S], .int .i64 k, .int .i64 t] w fun e w' => e = .returned (.int .i64 (rp 6 W T S k t)) ∧ Below w.heap.size w w' := by
  have K0 := Bb.new w 6 W T S
  have pr := bl (w := w) #[.int .i64 6, .int .i64 W, .int .i64 T, .int .i64 S] 23
  have q0 := K0.c0
  have q1 := K0.c1
  have q2 := K0.c2
  have q3 := K0.c3
  have e1 : IntKind.i64.wrap (W + T) = W + T := wrapI _ (by omega) (by omega)
  have e2 : IntKind.i64.wrap (k + 1) = k + 1 := wrapI _ (by omega) (by omega)
  have e3 : IntKind.i64.wrap (k - W) = k - W := wrapI _ (by omega) (by omega)
  have e4 : IntKind.i64.wrap (k - W + 1) = k - W + 1 := wrapI _ (by omega) (by omega)
  clear K0 hW hT hk
  go_enter Try.func13, Try.ntmps13
  go_wp2_with fail
  all_goals
    go_ret
    refine ⟨?_, pr⟩
    show Ending.returned (Value.int IntKind.i64 _) = _
    congr 2
    symm
    simp only [rp]
    first | rw [if_pos (by omega)] | rw [if_neg (by omega)]
set_option maxRecDepth 100000 in
set_option maxHeartbeats 3200000 in
theorem Pays_7 (W T S k t : Int) (w : World) (hW : 0 ≤ W ∧ W ≤ 130) (hT : 1 ≤ T ∧ T ≤ 130) (hk : 0 ≤ k ∧ k ≤ 130) :
    Calls Try.prog 13 #[.agg #[.int .i64 7, .int .i64 W, .int .i64 T, .int .i64 S], .int .i64 k, .int .i64 t] w fun e w' => e = .returned (.int .i64 (rp 7 W T S k t)) ∧ Below w.heap.size w w' := by
  have K0 := Bb.new w 7 W T S
  have pr := bl (w := w) #[.int .i64 7, .int .i64 W, .int .i64 T, .int .i64 S] 23
  have q0 := K0.c0
  have q1 := K0.c1
  have q2 := K0.c2
  have q3 := K0.c3
  have e1 : IntKind.i64.wrap (W + T) = W + T := wrapI _ (by omega) (by omega)
  have e2 : IntKind.i64.wrap (k + 1) = k + 1 := wrapI _ (by omega) (by omega)
  have e3 : IntKind.i64.wrap (W + T - k) = W + T - k := wrapI _ (by omega) (by omega)
  clear K0 hW hT hk
  go_enter Try.func13, Try.ntmps13
  go_wp2_with fail
  all_goals
    go_ret
    refine ⟨?_, pr⟩
    show Ending.returned (Value.int IntKind.i64 _) = _
    congr 2
    symm
    simp only [rp]
    first | rw [if_pos (by omega)] | rw [if_neg (by omega)]
end Go.Proofs.Ytbfaebaoekimhaa.Vf
