import Derived.Below
import Derived.Deep.RegionHeld3
namespace Go

theorem ready_false {md : Region.Mode} {ops : Array Oper} {listed : Array Bool} {i : Nat} (h : i ∈ Region.ready md ops listed) : listed.toList[i]? = some false := by
  unfold Region.ready at h
  have c := (List.mem_filter.1 h).2
  rw [Bool.and_eq_true] at c
  have d := c.1
  cases e : listed.toList[i]? with
  | none => rw [Array.getD_eq_getD_getElem?, ← Array.getElem?_toList, e] at d; simp at d
  | some b => rw [Array.getD_eq_getD_getElem?, ← Array.getElem?_toList, e] at d; simp at d; rw [d]
theorem count_set_true {l : List Bool} {i : Nat} (h : l[i]? = some false) : (l.set i true).count false + 1 = l.count false := by
  induction l generalizing i with
  | nil => simp at h
  | cons b l ih =>
    cases i with
    | zero => simp at h; subst h; simp
    | succ i =>
      simp at h
      have := ih h
      rw [List.set_cons_succ, List.count_cons, List.count_cons]
      omega
/-- An operation that is wanted. -/
theorem wpOp_go {P : Program} {ops : Array Oper} {Q : Exit → Act → World → Prop} {i : Nat} {o : Oper} {K : Act → World → Prop} {a : Act} {w : World} (ho : ops[i]? = some o) (hw : Region.wanted o (yielded ops a.tmps) = true) (h : ∀ K' : Act → World → Prop, RowKit.Hid (∀ a w, K a w → K' a w) → Oper.wp P o a w K' Q) : wpOp P ops Q i K a w := by
  refine wpOp_step ho (fun K' hK => ?_)
  rw [if_pos hw]
  exact h K' hK
/-- A region in any order, by what holds of the state when some of it has come up. -/
theorem any_inv {P : Program} {md : Region.Mode} {ops : Array Oper} {Q : Exit → Act → World → Prop} (Inv : Array Bool → Act → World → Prop)
    (hs : ∀ listed a w i, Inv listed a w → i ∈ Region.ready md ops listed → wpOp P ops Q i (fun a' w' => Inv (listed.setIfInBounds i true) a' w') a w)
    (hd : ∀ listed a w, Inv listed a w → Region.ready md ops listed = [] → Q .normal a w) :
    ∀ (fuel : Nat) (listed : Array Bool) (a : Act) (w : World), listed.toList.count false ≤ fuel → Inv listed a w → wpAnyH P md ops Q (fun _ => True) fuel listed a w := by
  intro fuel
  induction fuel with
  | zero =>
    intro listed a w hc hi
    have e : Region.ready md ops listed = [] := by
      cases c : Region.ready md ops listed with
      | nil => rfl
      | cons i rs =>
        have r := ready_false (md := md) (ops := ops) (listed := listed) (i := i) (by rw [c]; simp)
        have := count_set_true r
        omega
    exact ⟨e, hd _ _ _ hi e⟩
  | succ fuel ih =>
    intro listed a w hc hi
    refine ⟨fun e => hd _ _ _ hi e, fun i hr => wpOp_mono (fun a' w' h => ⟨trivial, ih _ _ _ ?_ h⟩) (hs _ _ _ _ hi hr)⟩
    have := count_set_true (ready_false hr)
    rw [Array.toList_setIfInBounds]
    omega
/-- Nothing may come up: all has come up, if nothing waits for what stands behind it. -/
theorem all_listed {md : Region.Mode} {ops : Array Oper} {listed : Array Bool} (hdep : (List.range ops.size).all (fun i => ((ops[i]?).map (fun o => o.after.all fun e => decide (e.on < i))).getD false) = true) (h : Region.ready md ops listed = []) : ∀ i, i < ops.size → listed.getD i true = true := by
  intro i
  induction i using Nat.strongRecOn with
  | ind i ih =>
    intro hi
    cases c : listed.getD i true with
    | true => rfl
    | false =>
      exfalso
      have ho : ops[i]? = some ops[i] := Array.getElem?_eq_getElem hi
      have d := List.all_eq_true.1 hdep i (List.mem_range.2 hi)
      rw [ho] at d
      simp only [Option.map_some, Option.getD_some] at d
      have m : i ∈ Region.ready md ops listed := by
        unfold Region.ready
        refine List.mem_filter.2 ⟨List.mem_range.2 hi, ?_⟩
        rw [c, ho]
        simp only [Bool.not_false, Bool.true_and, Option.map_some, Option.getD_some]
        rw [Array.all_eq_true] at d ⊢
        intro k hk
        have e := d k hk
        rw [decide_eq_true_iff] at e
        have t := ih _ e (by omega)
        have t2 : listed.getD (ops[i].after[k]).on false = true := by
          rw [Array.getD_eq_getD_getElem?] at t ⊢
          cases x : listed[(ops[i].after[k]).on]? with
          | none =>
            exfalso
            have z : listed.getD i true = false := c
            rw [Array.getD_eq_getD_getElem?] at z
            have : listed[i]? = none := by
              rw [Array.getElem?_eq_none_iff] at x ⊢
              omega
            rw [this] at z
            simp at z
          | some b => rw [x] at t; simpa using t
        rw [t2]; simp
      rw [h] at m
      cases m
end Go
