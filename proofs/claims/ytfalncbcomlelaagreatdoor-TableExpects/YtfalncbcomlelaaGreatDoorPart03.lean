import Derived.Below
import Derived.Deep.RegionHeld3
import Derived.Test.YtfalncbcomlelaaGreatDoorProg
import Derived.Test.YtfalncbcomlelaaGreatDoorPart02

namespace Go

theorem ready_false {md : Region.Mode} {ops : Array Oper} {listed : Array Bool} {i : Nat} (h : i ∈ Region.ready md ops listed) : listed.toList[i]? = some false := by
  unfold Region.ready at h
  have c := (List.mem_filter.1 h).2
  rw [Bool.and_eq_true] at c
  have d := c.1
  cases e : listed.toList[i]? with
  | none => rw [Array.getD_eq_getD_getElem?, ← Array.getElem?_toList, e] at d; simp at d
  | some b => rw [Array.getD_eq_getD_getElem?, ← Array.getElem?_toList, e] at d; simp at d; rw [d]
theorem count_set_true {l : List Bool} {i : Nat} (h : l[i]? = some false) : (l.set i true).count false + 1 = l.count false := by
  induction l generalizing i with
  | nil => simp at h
  | cons b l ih =>
    cases i with
    | zero => simp at h; subst h; simp
    | succ i =>
      simp at h
      have := ih h
      rw [List.set_cons_succ, List.count_cons, List.count_cons]
      omega
/-- An operation that is wanted. -/
theorem wpOp_go {P : Program} {ops : Array Oper} {Q : Exit → Act → World → Prop} {i : Nat} {o : Oper} {K : Act → World → Prop} {a : Act} {w : World} (ho : ops[i]? = some o) (hw : Region.wanted o (yielded ops a.tmps) = true) (h : ∀ K' : Act → World → Prop, RowKit.Hid (∀ a w, K a w → K' a w) → Oper.wp P o a w K' Q) : wpOp P ops Q i K a w := by
  refine wpOp_step ho (fun K' hK => ?_)
  rw [if_pos hw]
  exact h K' hK
/-- A region in any order, by what holds of the state when some of it has come up. -/
theorem any_inv {P : Program} {md : Region.Mode} {ops : Array Oper} {Q : Exit → Act → World → Prop} (Inv : Array Bool → Act → World → Prop)
    (hs : ∀ listed a w i, Inv listed a w → i ∈ Region.ready md ops listed → wpOp P ops Q i (fun a' w' => Inv (listed.setIfInBounds i true) a' w') a w)
    (hd : ∀ listed a w, Inv listed a w → Region.ready md ops listed = [] → Q .normal a w) :
    ∀ (fuel : Nat) (listed : Array Bool) (a : Act) (w : World), listed.toList.count false ≤ fuel → Inv listed a w → wpAnyH P md ops Q (fun _ => True) fuel listed a w := by
  intro fuel
  induction fuel with
  | zero =>
    intro listed a w hc hi
    have e : Region.ready md ops listed = [] := by
      cases c : Region.ready md ops listed with
      | nil => rfl
      | cons i rs =>
        have r := ready_false (md := md) (ops := ops) (listed := listed) (i := i) (by rw [c]; simp)
        have := count_set_true r
        omega
    exact ⟨e, hd _ _ _ hi e⟩
  | succ fuel ih =>
    intro listed a w hc hi
    refine ⟨fun e => hd _ _ _ hi e, fun i hr => wpOp_mono (fun a' w' h => ⟨trivial, ih _ _ _ ?_ h⟩) (hs _ _ _ _ hi hr)⟩
    have := count_set_true (ready_false hr)
    rw [Array.toList_setIfInBounds]
    omega
/-- Nothing may come up: all has come up, if nothing waits for what stands behind it. -/
theorem all_listed {md : Region.Mode} {ops : Array Oper} {listed : Array Bool} (hdep : (List.range ops.size).all (fun i => ((ops[i]?).map (fun o => o.after.all fun e => decide (e.on < i))).getD false) = true) (h : Region.ready md ops listed = []) : ∀ i, i < ops.size → listed.getD i true = true := by
  intro i
  induction i using Nat.strongRecOn with
  | ind i ih =>
    intro hi
    cases c : listed.getD i true with
    | true => rfl
    | false =>
      exfalso
      have ho : ops[i]? = some ops[i] := Array.getElem?_eq_getElem hi
      have d := List.all_eq_true.1 hdep i (List.mem_range.2 hi)
      rw [ho] at d
      simp only [Option.map_some, Option.getD_some] at d
      have m : i ∈ Region.ready md ops listed := by
        unfold Region.ready
        refine List.mem_filter.2 ⟨List.mem_range.2 hi, ?_⟩
        rw [c, ho]
        simp only [Bool.not_false, Bool.true_and, Option.map_some, Option.getD_some]
        rw [Array.all_eq_true] at d ⊢
        intro k hk
        have e := d k hk
        rw [decide_eq_true_iff] at e
        have t := ih _ e (by omega)
        have t2 : listed.getD (ops[i].after[k]).on false = true := by
          rw [Array.getD_eq_getD_getElem?] at t ⊢
          cases x : listed[(ops[i].after[k]).on]? with
          | none =>
            exfalso
            have z : listed.getD i true = false := c
            rw [Array.getD_eq_getD_getElem?] at z
            have : listed[i]? = none := by
              rw [Array.getElem?_eq_none_iff] at x ⊢
              omega
            rw [this] at z
            simp at z
          | some b => rw [x] at t; simpa using t
        rw [t2]; simp
      rw [h] at m
      cases m
end Go

namespace Go
/-- Nothing may come up: all has come up, if nothing waits, by a ground that binds, for what stands behind it. -/
theorem all_listed2 {md : Region.Mode} {ops : Array Oper} {listed : Array Bool} (hdep : (List.range ops.size).all (fun i => ((ops[i]?).map (fun o => o.after.all fun e => !Region.binds md e || decide (e.on < i))).getD false) = true) (h : Region.ready md ops listed = []) : ∀ i, i < ops.size → listed.getD i true = true := by
  intro i
  induction i using Nat.strongRecOn with
  | ind i ih =>
    intro hi
    cases c : listed.getD i true with
    | true => rfl
    | false =>
      exfalso
      have ho : ops[i]? = some ops[i] := Array.getElem?_eq_getElem hi
      have d := List.all_eq_true.1 hdep i (List.mem_range.2 hi)
      rw [ho] at d
      simp only [Option.map_some, Option.getD_some] at d
      have m : i ∈ Region.ready md ops listed := by
        unfold Region.ready
        refine List.mem_filter.2 ⟨List.mem_range.2 hi, ?_⟩
        rw [c, ho]
        simp only [Bool.not_false, Bool.true_and, Option.map_some, Option.getD_some]
        rw [Array.all_eq_true] at d ⊢
        intro k hk
        have e := d k hk
        cases bb : Region.binds md (ops[i].after[k]) with
        | false => simp
        | true =>
          rw [bb] at e
          simp only [Bool.not_true, Bool.false_or, decide_eq_true_iff] at e
          have t := ih _ e (by omega)
          have t2 : listed.getD (ops[i].after[k]).on false = true := by
            rw [Array.getD_eq_getD_getElem?] at t ⊢
            cases x : listed[(ops[i].after[k]).on]? with
            | none =>
              exfalso
              have z : listed.getD i true = false := c
              rw [Array.getD_eq_getD_getElem?] at z
              have : listed[i]? = none := by
                rw [Array.getElem?_eq_none_iff] at x ⊢
                omega
              rw [this] at z
              simp at z
            | some b => rw [x] at t; simpa using t
          rw [t2]; simp
      rw [h] at m
      cases m
end Go

namespace Go.Proofs.YtfalncbcomlelaaGreatDoor
open Go.RowKit Tn

theorem order_any (t : Bool) (w : World) : Calls Tryz.prog 93 #[.bool t] w fun e w' => e = .returned (.int .i64 (if t then -1 else 1)) ∧ w' = w := by
  cases t
  · go_enter Tryz.func93, Tryz.ntmps93
    go_wp2
    go_ret
    exact ⟨rfl, rfl⟩
  · go_enter Tryz.func93, Tryz.ntmps93
    go_wp2
    go_ret
    exact ⟨rfl, rfl⟩

theorem take_less (xs : List Int) (k : Nat) (h0 : 0 < k) (hk : k ≤ xs.length) (h : nth xs (k - 1) = 0) : val (xs.take k) = val (xs.take (k - 1)) := by
  have := val_take_succ xs (k - 1) (by omega)
  rw [Nat.sub_add_cancel h0] at this
  unfold nth at h
  rw [this, h]; simp
theorem nm_take (xs : List Int) (k : Nat) (h0 : 0 < k) (hk : k ≤ xs.length) (h : ¬ nth xs (k - 1) = 0) : Nm (xs.take k) := by
  refine Or.inr ?_
  rw [List.length_take, Nat.min_eq_left hk]
  have := nth_take xs k (k - 1) (by omega)
  unfold nth at h this
  rw [this]; exact h

set_option maxHeartbeats 400000 in
/-- whole.trim: without the noughts at the high end. -/
theorem trim_any (a : Option Addr) (xs : List Int) (cap : Nat) (w : World) (hl : xs.length ≤ cap) (hcap : cap ≤ 9223372036854775807) (ha : 0 < xs.length → ∃ b o, a = some ⟨b, o, none⟩ ∧ Cells w b o xs) :
    Calls Tryz.prog 85 #[.slice a xs.length cap] w fun e w' => ∃ n, n ≤ xs.length ∧ e = .returned (.agg #[.slice a n cap]) ∧ Nm (xs.take n) ∧ val (xs.take n) = val xs ∧ Below w.heap.size w w' := by
  go_enter Tryz.func85, Tryz.ntmps85
  go_wp2
  go_loop [3] (fun t => ∃ k : Nat, k ≤ xs.length ∧ t = .int .i64 k ∧ val (xs.take k) = val xs) (fun t => (intOf t).toNat)
  case atStart => exact ⟨xs.length, Nat.le_refl _, rfl, by rw [List.take_length]⟩
  case round =>
    obtain ⟨k, hk, rfl, hv⟩ := hrel
    have HV : Hid (val (xs.take k) = val xs) := hv
    clear hv
    by_cases h0 : k = 0
    · subst h0
      go_wp2
      refine bodyPost_ret (v := .agg #[.slice a 0 cap]) (by simp [results, Tryz.results85, go_sem]) rfl ⟨0, by omega, rfl, by simp [Nm], HV.out, ?_⟩
      exact (Below.refl _ _).alloc (Nat.le_refl _) _
    · obtain ⟨b, o, rfl, hc⟩ := ha (by omega)
      have hb := hc.lt (by omega)
      have hc1 := hc.at (i := k - 1) (by omega)
      by_cases hz : nth xs (k - 1) = 0
      · rw [hz] at hc1
        have HZ : Hid (nth xs (k - 1) = 0) := hz
        clear hz
        go_wp2
        go_round
        case rel => exact ⟨k - 1, by omega, by go_num, by rw [← HV.out]; exact (take_less xs k (by omega) (by omega) HZ.out).symm⟩
        case measure => simp [intOf]; omega
      · go_wp2
        refine bodyPost_ret (v := .agg #[.slice (some ⟨b, o, none⟩) k cap]) (by simp [results, Tryz.results85, go_sem]) rfl ⟨k, by omega, rfl, nm_take xs k (by omega) (by omega) hz, HV.out, ?_⟩
        exact (Below.refl _ _).alloc (Nat.le_refl _) _
/-- The same, told as what it is for: a row of words becomes a number's. -/
theorem trim_rd (a : Option Addr) (m cap : Nat) (xs : List Int) (w : World) (em : m = xs.length) (hw : Wd xs) (hl : xs.length ≤ cap) (hcap : cap ≤ 9223372036854775807) (ha : 0 < xs.length → ∃ b o, a = some ⟨b, o, none⟩ ∧ Cells w b o xs) :
    Calls Tryz.prog 85 #[.slice a m cap] w fun e w' => ∃ n zs, e = .returned (.agg #[.slice a n cap]) ∧ zs = xs.take n ∧ Rd w' (.slice a n cap) zs ∧ Nm zs ∧ val zs = val xs ∧ Below w.heap.size w w' := by
  subst em
  refine (trim_any a xs cap w hl hcap ha).mono ?_
  rintro e w' ⟨n, hn, rfl, hnm, hv, hb⟩
  refine ⟨n, xs.take n, rfl, rfl, ⟨hw.take n, a, cap, ?_, ?_, hcap, ?_⟩, hnm, hv, hb⟩
  · rw [List.length_take, Nat.min_eq_left hn]
  · rw [List.length_take]; omega
  · intro l
    rw [List.length_take] at l
    obtain ⟨b, o, e, c⟩ := ha (by omega)
    exact ⟨b, o, e, (c.take n).grow hb⟩
end Go.Proofs.YtfalncbcomlelaaGreatDoor
