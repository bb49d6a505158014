import Derived.Test.YtfalncbcomlelaaGreatDoorSa1
namespace Go
/-- Nothing may come up: all has come up, if nothing waits, by a ground that binds, for what stands behind it. -/
theorem all_listed2 {md : Region.Mode} {ops : Array Oper} {listed : Array Bool} (hdep : (List.range ops.size).all (fun i => ((ops[i]?).map (fun o => o.after.all fun e => !Region.binds md e || decide (e.on < i))).getD false) = true) (h : Region.ready md ops listed = []) : ∀ i, i < ops.size → listed.getD i true = true := by
  intro i
  induction i using Nat.strongRecOn with
  | ind i ih =>
    intro hi
    cases c : listed.getD i true with
    | true => rfl
    | false =>
      exfalso
      have ho : ops[i]? = some ops[i] := Array.getElem?_eq_getElem hi
      have d := List.all_eq_true.1 hdep i (List.mem_range.2 hi)
      rw [ho] at d
      simp only [Option.map_some, Option.getD_some] at d
      have m : i ∈ Region.ready md ops listed := by
        unfold Region.ready
        refine List.mem_filter.2 ⟨List.mem_range.2 hi, ?_⟩
        rw [c, ho]
        simp only [Bool.not_false, Bool.true_and, Option.map_some, Option.getD_some]
        rw [Array.all_eq_true] at d ⊢
        intro k hk
        have e := d k hk
        cases bb : Region.binds md (ops[i].after[k]) with
        | false => simp
        | true =>
          rw [bb] at e
          simp only [Bool.not_true, Bool.false_or, decide_eq_true_iff] at e
          have t := ih _ e (by omega)
          have t2 : listed.getD (ops[i].after[k]).on false = true := by
            rw [Array.getD_eq_getD_getElem?] at t ⊢
            cases x : listed[(ops[i].after[k]).on]? with
            | none =>
              exfalso
              have z : listed.getD i true = false := c
              rw [Array.getD_eq_getD_getElem?] at z
              have : listed[i]? = none := by
                rw [Array.getElem?_eq_none_iff] at x ⊢
                omega
              rw [this] at z
              simp at z
            | some b => rw [x] at t; simpa using t
          rw [t2]; simp
      rw [h] at m
      cases m
end Go
