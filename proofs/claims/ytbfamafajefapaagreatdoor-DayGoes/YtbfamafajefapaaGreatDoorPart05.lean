import Derived.Test.YtbfamafajefapaaGreatDoorPart04
import Derived.Deep.DeepCutAuto
import Derived.Deep.RegionHeld3

namespace Go.Proofs.YtbfamafajefapaaGreatDoor.Dy
open Go.RowKit Tn
theorem undr {V w2 : World} {n : Nat} (k : Below (V.drewN n).heap.size (V.drewN n) w2) : Below V.heap.size V w2 := ⟨k.os, k.tape, k.output, k.size, k.block⟩
/-- Two dates in their boxes. -/
def Tb (w W : World) (y m d u v e : Int) : Prop :=
  Blk W w.heap.size #[.int .i64 y, .int .i64 m, .int .i64 d] 38 ∧ Blk W (w.heap.size + 1) #[.int .i64 u, .int .i64 v, .int .i64 e] 38 ∧ Gl W ∧ Below w.heap.size w W
theorem Tb.grow {w W W' : World} {y m d u v e : Int} (h : Tb w W y m d u v e) (k : Below W.heap.size W W') : Tb w W' y m d u v e :=
  ⟨h.1.below k h.1.lt, h.2.1.below k h.2.1.lt, h.2.2.1.grow k, belT h.2.2.2 k⟩
theorem Tb.drew {w W : World} {y m d u v e : Int} (h : Tb w W y m d u v e) (n : Nat) : Tb w (W.drewN n) y m d u v e := ⟨h.1, h.2.1, h.2.2.1.drew n, blN h.2.2.2⟩
theorem Tb.new (w : World) (y m d u v e : Int) (G : Gl w) : Tb w ((w.alloc (.cells #[.int .i64 y, .int .i64 m, .int .i64 d] 38)).alloc (.cells #[.int .i64 u, .int .i64 v, .int .i64 e] 38)) y m d u v e := by
  have Ka0 := (Blk.new w #[.int .i64 y, .int .i64 m, .int .i64 d] 38).alloc (.cells #[.int .i64 u, .int .i64 v, .int .i64 e] 38)
  have Kb0 := Blk.new (w.alloc (.cells #[.int .i64 y, .int .i64 m, .int .i64 d] 38)) #[.int .i64 u, .int .i64 v, .int .i64 e] 38
  rw [show (w.alloc (.cells #[.int .i64 y, .int .i64 m, .int .i64 d] 38)).heap.size = w.heap.size + 1 by simp] at Kb0
  have pr := belT (bl (w := w) #[.int .i64 y, .int .i64 m, .int .i64 d] 38) (bl (w := (w.alloc (.cells #[.int .i64 y, .int .i64 m, .int .i64 d] 38))) #[.int .i64 u, .int .i64 v, .int .i64 e] 38)
  have G0 := ((G).alloc (.cells #[.int .i64 y, .int .i64 m, .int .i64 d] 38)).alloc (.cells #[.int .i64 u, .int .i64 v, .int .i64 e] 38)
  exact ⟨Ka0, Kb0, G0, pr⟩
/-- What is wrong with two dates. -/
def tw (y m d u v e : Int) : Int := if good y m d && good u v e then (if num u v e < num y m d then 1 else 0) else 70
def td (y m d u v e : Int) : Int := if tw y m d u v e = 0 then num u v e - num y m d else 0
set_option maxHeartbeats 800000 in
theorem daysFrom_any (y m d u v e : Int) (w : World) (G : Gl w) : Calls Tryz.prog 48 #[dt y m d, dt u v e] w fun x w' => x = .returned (.tuple #[.int .i64 (td y m d u v e), .int .i64 (tw y m d u v e)]) ∧ Below w.heap.size w w' := by
  have T0 := Tb.new w y m d u v e G
  have G0 := T0.2.2.1
  have N1 := Number_any y m d
  have N2 := Number_any u v e
  clear G
  cases g : good y m d
  · have t1 : tw y m d u v e = 70 := by unfold tw; rw [g]; rfl
    have t2 : td y m d u v e = 0 := by unfold td; rw [t1]; rfl
    rw [t1, t2]
    rw [g] at N1
    clear N2 t1 t2
    unfold dt er at *
    go_enter Tryz.func48, Tryz.ntmps48
    go_wp2_with (first
      | (go_at_call 43; (with_reducible refine (N1 _ G0).mono ?_); rintro x w1 ⟨rfl, b1⟩; have T1 := T0.grow b1; have G1 := T1.2.2.1; have a10 := T1.1.c0; have a11 := T1.1.c1; have a12 := T1.1.c2; have b10 := T1.2.1.c0; have b11 := T1.2.1.c1; have b12 := T1.2.1.c2)
      | fail)
    go_ret2
    exact ⟨rfl, T1.2.2.2⟩
  cases h : good u v e
  · have t1 : tw y m d u v e = 70 := by unfold tw; rw [g, h]; rfl
    have t2 : td y m d u v e = 0 := by unfold td; rw [t1]; rfl
    rw [t1, t2]
    clear t1 t2
    rw [g] at N1
    rw [h] at N2
    unfold dt er at *
    go_enter Tryz.func48, Tryz.ntmps48
    go_wp2_with (first
      | (go_at_call 43; (with_reducible refine (N1 _ G0).mono ?_); rintro x w1 ⟨rfl, b1⟩; have T1 := T0.grow b1; have G1 := T1.2.2.1; have a10 := T1.1.c0; have a11 := T1.1.c1; have a12 := T1.1.c2; have b10 := T1.2.1.c0; have b11 := T1.2.1.c1; have b12 := T1.2.1.c2)
      | (go_at_call 43; (with_reducible refine (N2 _ G1).mono ?_); rintro x w2 ⟨rfl, b2⟩; have T2 := T1.grow b2; have a20 := T2.1.c0; have a21 := T2.1.c1; have a22 := T2.1.c2; have b20 := T2.2.1.c0; have b21 := T2.2.1.c1; have b22 := T2.2.1.c2)
      | fail)
    go_ret2
    exact ⟨rfl, T2.2.2.2⟩
  · have l1 := num_lo g
    have l2 := num_hi g
    have l3 := num_lo h
    have l4 := num_hi h
    have t0 : tw y m d u v e = if num u v e < num y m d then 1 else 0 := by unfold tw; rw [g, h]; rfl
    have t3 : td y m d u v e = if tw y m d u v e = 0 then num u v e - num y m d else 0 := rfl
    rw [g] at N1
    rw [h] at N2
    clear g h
    generalize num y m d = A at *
    generalize num u v e = B at *
    by_cases c : B < A
    · rw [if_pos c] at t0
      rw [t0, if_neg (by decide)] at t3
      rw [t0, t3]
      clear t0 t3
      unfold dt er at *
      go_enter Tryz.func48, Tryz.ntmps48
      go_wp2_with (first
        | (go_at_call 43; (with_reducible refine (N1 _ G0).mono ?_); rintro x w1 ⟨rfl, b1⟩; have T1 := T0.grow b1; have G1 := T1.2.2.1; have a10 := T1.1.c0; have a11 := T1.1.c1; have a12 := T1.1.c2; have b10 := T1.2.1.c0; have b11 := T1.2.1.c1; have b12 := T1.2.1.c2)
        | (go_at_call 43; (with_reducible refine (N2 _ G1).mono ?_); rintro x w2 ⟨rfl, b2⟩; have T2 := T1.grow b2; have a20 := T2.1.c0; have a21 := T2.1.c1; have a22 := T2.1.c2; have b20 := T2.2.1.c0; have b21 := T2.2.1.c1; have b22 := T2.2.1.c2)
        | fail)
      go_ret2
      exact ⟨rfl, T2.2.2.2⟩
    · rw [if_neg c] at t0
      rw [t0, if_pos rfl] at t3
      rw [t0, t3]
      clear t0 t3
      have e1 : IntKind.i64.wrap (B - A) = B - A := wrapI _ (by omega) (by omega)
      unfold dt er at *
      go_enter Tryz.func48, Tryz.ntmps48
      go_wp2_with (first
        | (go_at_call 43; (with_reducible refine (N1 _ G0).mono ?_); rintro x w1 ⟨rfl, b1⟩; have T1 := T0.grow b1; have G1 := T1.2.2.1; have a10 := T1.1.c0; have a11 := T1.1.c1; have a12 := T1.1.c2; have b10 := T1.2.1.c0; have b11 := T1.2.1.c1; have b12 := T1.2.1.c2)
        | (go_at_call 43; (with_reducible refine (N2 _ G1).mono ?_); rintro x w2 ⟨rfl, b2⟩; have T2 := T1.grow b2; have a20 := T2.1.c0; have a21 := T2.1.c1; have a22 := T2.1.c2; have b20 := T2.2.1.c0; have b21 := T2.2.1.c1; have b22 := T2.2.1.c2)
        | fail)
      go_ret2
      exact ⟨rfl, T2.2.2.2⟩
theorem field_day (y m d : Int) (w : World) : (Instr.field 38 (.agg #[.int .i64 y, .int .i64 m, .int .i64 d]) 2).run Tryz.prog w = .ok (.int .i64 d) w := by
  simp [Instr.field, run_underlying Tryz.underlying38, asAgg, part, Tryz.sizeOf3, go_sem]
set_option maxHeartbeats 1600000 in
theorem monthsPast_any (y m d u v e : Int) (g : good y m d = true) (h : good u v e = true) (w : World) (G : Gl w) : Calls Tryz.prog 109 #[dt y m d, dt u v e] w fun x w' => x = .returned (.int .i64 (mp (mo y m) d (mo u v) e)) ∧ Below w.heap.size w w' := by
  have T0 := Tb.new w y m d u v e G
  obtain ⟨g1, g2, g3, g4, g5, g6⟩ := good_iff.1 g
  obtain ⟨h1, h2, h3, h4, h5, h6⟩ := good_iff.1 h
  have A1 := monthsAhead_any y m d (by omega) (by omega) (by omega) (by omega)
  have A2 := monthsAhead_any u v e (by omega) (by omega) (by omega) (by omega)
  have k1 : 0 ≤ mo y m ∧ mo y m ≤ 119987 := by unfold mo; omega
  have k2 : 0 ≤ mo u v ∧ mo u v ≤ 119987 := by unfold mo; omega
  obtain ⟨n, hn⟩ : ∃ n, mo u v - mo y m = n := ⟨_, rfl⟩
  have O := monthsOn_any y m d n (by omega) (by omega) (by omega) (by omega) (by omega) (by omega)
  rw [show mo y m + n = mo u v by omega] at O
  have e1 : IntKind.i64.wrap (mo u v - mo y m) = n := by rw [wrapI _ (by omega) (by omega)]; exact hn
  have e2 : IntKind.i64.wrap (n - 1) = n - 1 := wrapI _ (by omega) (by omega)
  have P : mp (mo y m) d (mo u v) e = if min d (mk (mo u v)) > e then n - 1 else n := by unfold mp; rw [hn]
  rw [P]
  clear P
  generalize min d (mk (mo u v)) = D at *
  generalize mo u v / 12 + 1 = Y at *
  generalize mo u v % 12 + 1 = M at *
  clear g h g1 g2 g3 g4 g5 g6 h1 h2 h3 h4 h5 h6 k1 k2 hn
  generalize mo y m = p at *
  generalize mo u v = q at *
  have FD := fun W => field_day Y M D W
  obtain ⟨Z0, hZ⟩ : ∃ Z0, (if D > e then n - 1 else n) = Z0 := ⟨_, rfl⟩
  rw [hZ]
  have HZ : Hid _ := hZ
  clear G hZ
  unfold dt at *
  go_enter Tryz.func109, Tryz.ntmps109
  go_wp2_with fail
  generalize ((w.alloc (.cells #[.int .i64 y, .int .i64 m, .int .i64 d] 38)).alloc (.cells #[.int .i64 u, .int .i64 v, .int .i64 e] 38)) = W at *
  go_cut [5] from 6 to 10 (fun x wc => x = .int .i64 n ∧ Tb w wc y m d u v e)
  case first =>
    have a00 := T0.1.c0
    have a01 := T0.1.c1
    have a02 := T0.1.c2
    have b00 := T0.2.1.c0
    have b01 := T0.2.1.c1
    have b02 := T0.2.1.c2
    go_region_with (first
      | (go_at_call 107; (with_reducible refine (A2 _).mono ?_); rintro x w1 ⟨rfl, b1⟩; have T1 := T0.grow (undr b1); have a10 := T1.1.c0; have a11 := T1.1.c1; have a12 := T1.1.c2; have b10 := T1.2.1.c0; have b11 := T1.2.1.c1; have b12 := T1.2.1.c2)
      | (go_at_call 107; (with_reducible refine (A1 _).mono ?_); rintro x w2 ⟨rfl, b2⟩; have T2 : Tb w w2 y m d u v e := (by first | exact T1.grow b2 | exact T1.grow (undr b2))))
    all_goals
      go_wp2_with fail
      go_meet
      case rel => exact ⟨rfl, T2⟩
  case rest =>
    obtain ⟨rfl, T3⟩ := hcut
    have a30 := T3.1.c0
    have a31 := T3.1.c1
    have a32 := T3.1.c2
    have b30 := T3.2.1.c0
    have b31 := T3.2.1.c1
    have b32 := T3.2.1.c2
    have G3 := T3.2.2.1
    by_cases c : e < D
    · have hz := HZ.out
      rw [if_pos c] at hz
      subst hz
      go_wp2_with fail
      go_region_with (first
        | (go_at_call 108; refine (O _ (G3.drew _)).mono ?_; rintro x w4 ⟨rfl, b4⟩; have T4 := T3.grow (undr b4); have a40 := T4.1.c0; have a41 := T4.1.c1; have a42 := T4.1.c2; have b40 := T4.2.1.c0; have b41 := T4.2.1.c1; have b42 := T4.2.1.c2))
      all_goals
        go_wp2_with fail
        go_ret
        exact ⟨rfl, T4.2.2.2⟩
    · have hz := HZ.out
      rw [if_neg c] at hz
      subst hz
      go_wp2_with fail
      go_region_with (first
        | (go_at_call 108; refine (O _ (G3.drew _)).mono ?_; rintro x w4 ⟨rfl, b4⟩; have T4 := T3.grow (undr b4); have a40 := T4.1.c0; have a41 := T4.1.c1; have a42 := T4.1.c2; have b40 := T4.2.1.c0; have b41 := T4.2.1.c1; have b42 := T4.2.1.c2))
      all_goals
        go_wp2_with fail
        go_ret
        exact ⟨rfl, T4.2.2.2⟩
end Go.Proofs.YtbfamafajefapaaGreatDoor.Dy

namespace Go

theorem ready_false {md : Region.Mode} {ops : Array Oper} {listed : Array Bool} {i : Nat} (h : i ∈ Region.ready md ops listed) : listed.toList[i]? = some false := by
  unfold Region.ready at h
  have c := (List.mem_filter.1 h).2
  rw [Bool.and_eq_true] at c
  have d := c.1
  cases e : listed.toList[i]? with
  | none => rw [Array.getD_eq_getD_getElem?, ← Array.getElem?_toList, e] at d; simp at d
  | some b => rw [Array.getD_eq_getD_getElem?, ← Array.getElem?_toList, e] at d; simp at d; rw [d]
theorem count_set_true {l : List Bool} {i : Nat} (h : l[i]? = some false) : (l.set i true).count false + 1 = l.count false := by
  induction l generalizing i with
  | nil => simp at h
  | cons b l ih =>
    cases i with
    | zero => simp at h; subst h; simp
    | succ i =>
      simp at h
      have := ih h
      rw [List.set_cons_succ, List.count_cons, List.count_cons]
      omega
/-- A region in any order, by what holds of the state when some of it has come up. -/
theorem any_inv {P : Program} {md : Region.Mode} {ops : Array Oper} {Q : Exit → Act → World → Prop} (Inv : Array Bool → Act → World → Prop)
    (hs : ∀ listed a w i, Inv listed a w → i ∈ Region.ready md ops listed → wpOp P ops Q i (fun a' w' => Inv (listed.setIfInBounds i true) a' w') a w)
    (hd : ∀ listed a w, Inv listed a w → Region.ready md ops listed = [] → Q .normal a w) :
    ∀ (fuel : Nat) (listed : Array Bool) (a : Act) (w : World), listed.toList.count false ≤ fuel → Inv listed a w → wpAnyH P md ops Q (fun _ => True) fuel listed a w := by
  intro fuel
  induction fuel with
  | zero =>
    intro listed a w hc hi
    have e : Region.ready md ops listed = [] := by
      cases c : Region.ready md ops listed with
      | nil => rfl
      | cons i rs =>
        have r := ready_false (md := md) (ops := ops) (listed := listed) (i := i) (by rw [c]; simp)
        have := count_set_true r
        omega
    exact ⟨e, hd _ _ _ hi e⟩
  | succ fuel ih =>
    intro listed a w hc hi
    refine ⟨fun e => hd _ _ _ hi e, fun i hr => wpOp_mono (fun a' w' h => ⟨trivial, ih _ _ _ ?_ h⟩) (hs _ _ _ _ hi hr)⟩
    have := count_set_true (ready_false hr)
    rw [Array.toList_setIfInBounds]
    omega
/-- Nothing may come up: all has come up, if nothing waits for what stands behind it. -/
theorem all_listed {md : Region.Mode} {ops : Array Oper} {listed : Array Bool} (hdep : (List.range ops.size).all (fun i => ((ops[i]?).map (fun o => o.after.all fun e => decide (e.on < i))).getD false) = true) (h : Region.ready md ops listed = []) : ∀ i, i < ops.size → listed.getD i true = true := by
  intro i
  induction i using Nat.strongRecOn with
  | ind i ih =>
    intro hi
    cases c : listed.getD i true with
    | true => rfl
    | false =>
      exfalso
      have ho : ops[i]? = some ops[i] := Array.getElem?_eq_getElem hi
      have d := List.all_eq_true.1 hdep i (List.mem_range.2 hi)
      rw [ho] at d
      simp only [Option.map_some, Option.getD_some] at d
      have m : i ∈ Region.ready md ops listed := by
        unfold Region.ready
        refine List.mem_filter.2 ⟨List.mem_range.2 hi, ?_⟩
        rw [c, ho]
        simp only [Bool.not_false, Bool.true_and, Option.map_some, Option.getD_some]
        rw [Array.all_eq_true] at d ⊢
        intro k hk
        have e := d k hk
        rw [decide_eq_true_iff] at e
        have t := ih _ e (by omega)
        have t2 : listed.getD (ops[i].after[k]).on false = true := by
          rw [Array.getD_eq_getD_getElem?] at t ⊢
          cases x : listed[(ops[i].after[k]).on]? with
          | none =>
            exfalso
            have z : listed.getD i true = false := c
            rw [Array.getD_eq_getD_getElem?] at z
            have : listed[i]? = none := by
              rw [Array.getElem?_eq_none_iff] at x ⊢
              omega
            rw [this] at z
            simp at z
          | some b => rw [x] at t; simpa using t
        rw [t2]; simp
      rw [h] at m
      cases m
end Go
