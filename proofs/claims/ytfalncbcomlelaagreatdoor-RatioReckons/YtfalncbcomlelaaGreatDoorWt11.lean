import Derived.Test.YtfalncbcomlelaaGreatDoorWt10
import Derived.Test.YtfalncbcomlelaaGreatDoorEr11
import Derived.Test.YtfalncbcomlelaaGreatDoorPg4
namespace Go.Proofs.YtfalncbcomlelaaGreatDoor.Wt
open Go.RowKit Tn Mo Go.Lib

theorem drop_lead {a b : List UInt8} {c : UInt8} {t : List UInt8} (h1 : ∀ x ∈ a, x = 48) (h2 : b = c :: t) (h3 : c.toNat ≠ 48) : (a ++ b).dropWhile (· == 48) = b := by
  induction a with
  | nil =>
    subst h2
    have : (c == 48) = false := by
      rw [beq_eq_false_iff_ne]
      rintro rfl
      exact h3 rfl
    simp [this]
  | cons x a ih =>
    obtain rfl := h1 x (by simp)
    rw [List.cons_append, List.dropWhile_cons]
    simp only [beq_self_eq_true, if_true]
    exact ih (fun x hx => h1 x (by simp [hx]))
theorem str_list (xs : List Int) : (strOfNums xs).data.toList = xs.map fun n => UInt8.ofNat n.toNat := by simp [strOfNums]
theorem trim_pd (V N : Nat) (h : nDigits V ≤ N) (h0 : 0 < V) : trimLeftB (strOfNums (pd V N)).data.toList 48 = decDigits V := by
  have e : pd V N = Dc.dgs V N N := rfl
  have hs := congrArg (fun s : ByteArray => s.data.toList) (Dc.dgs_str V N h)
  simp only [str_list] at hs
  rw [e, str_list]
  unfold trimLeftB
  rw [← List.take_append_drop (N - nDigits V) (Dc.dgs V N N), List.map_append, hs]
  obtain ⟨c, t, ec, _, hc⟩ := dec_cons V
  refine drop_lead (fun x hx => ?_) ec (hc h0)
  obtain ⟨n, hn, rfl⟩ := List.mem_map.1 hx
  obtain ⟨i, hi⟩ := List.getElem?_of_mem hn
  have hl : i < N - nDigits V := by
    by_cases q : i < N - nDigits V
    · exact q
    · rw [List.getElem?_eq_none (by rw [List.length_take]; omega)] at hi; cases hi
  rw [List.getElem?_take, if_pos hl] at hi
  have g := Dc.dgs_at V N N i (by omega)
  rw [List.getD_eq_getElem?_getD, hi] at g
  simp only [Option.getD_some] at g
  rw [g, Dc.high_digit V (N - 1 - i) (by omega)]
  rfl
theorem Lr.ru {w wr : World} {g cap k : Nat} {vals : List Value} (h : Lr w wr g cap k vals) : Ru wr wr.heap.size g 0 k := by
  refine ⟨h.R.lt, fun i hi => ?_⟩
  obtain ⟨a, l, c, e, n⟩ := h.v i hi
  refine ⟨a, l, c, by rw [Nat.zero_add]; exact h.R.at e, n, fun ad ea => ?_⟩
  obtain ⟨xs, ⟨hW, a1, c1, e1, _, _, h3⟩, _, hv⟩ := n
  have pos : 0 < xs.length := by
    by_cases q : 0 < xs.length
    · exact q
    · have : xs = [] := List.eq_nil_of_length_eq_zero (by omega)
      subst this
      have := rung_pos i
      have z : val [] = 0 := rfl
      rw [z] at hv
      omega
  obtain ⟨b, o, e2, q⟩ := h3 pos
  simp only [Value.slice.injEq] at e1
  rw [e1.1, e2] at ea
  cases ea
  exact lt_of_cell (q 0 pos)
end Go.Proofs.YtfalncbcomlelaaGreatDoor.Wt
