import Derived.Test.YtbfaebaoekimhaaVf6
import Derived.Test.YtbfaebaoekimhaaVf8
namespace Go.Proofs.Ytbfaebaoekimhaa.Vf
open Go.RowKit Tn

theorem Rl_congr {a b : Int → Int} {lo : Int} {n : Nat} (h : ∀ t : Int, lo ≤ t → t < lo + n → a t = b t) : Rl a lo n = Rl b lo n := by
  induction n with
  | zero => rfl
  | succ n ih =>
    simp only [Rl]
    rw [ih (fun t h1 h2 => h t h1 (by omega)), h (lo + n) (by omega) (by omega)]
theorem Rl_add (a : Int → Int) (lo : Int) (n m : Nat) : Rl a lo (n + m) = Rl a lo n ++ Rl a (lo + n) m := by
  induction m with
  | zero => simp [Rl]
  | succ m ih =>
    rw [← Nat.add_assoc]
    simp only [Rl]
    rw [ih, List.append_assoc, show lo + ((n + m : Nat) : Int) = lo + n + m by omega]
theorem opt_nil {t a : Int} (h : a ≤ 0) : opt t a = [] := if_neg (by omega)
theorem Rl_nil {a : Int → Int} {lo : Int} {n : Nat} (h : ∀ t : Int, lo ≤ t → t < lo + n → a t ≤ 0) : Rl a lo n = [] := by
  induction n with
  | zero => rfl
  | succ n ih =>
    simp only [Rl]
    rw [ih (fun t h1 h2 => h t h1 (by omega)), opt_nil (h _ (by omega) (by omega))]
    rfl
theorem Lp_N (N T : Int → Int) (hT : ∀ j, T j ≤ 0) (n : Nat) : Lp N T n = Rl N 0 n := by
  induction n with
  | zero => rfl
  | succ n ih =>
    simp only [Lp, Rl]
    rw [ih, opt_nil (hT _), List.append_nil, Int.zero_add]
theorem Lp_T (N T : Int → Int) (hN : ∀ j, N j ≤ 0) (n : Nat) : Lp N T n = Rl (fun t => T (t - 1)) 1 n := by
  induction n with
  | zero => rfl
  | succ n ih =>
    simp only [Lp, Rl]
    rw [ih, opt_nil (hN _), List.append_nil, show (n : Int) + 1 = 1 + n by omega, show (1 + (n : Int) - 1) = n by omega]
/-- Nothing behind: the list goes on. -/
theorem Rl_far {a : Int → Int} {lo : Int} {n m : Nat} (h : ∀ t : Int, lo + n ≤ t → t < lo + m → a t ≤ 0) (hm : n ≤ m) : Rl a lo m = Rl a lo n := by
  obtain ⟨d, rfl⟩ := Nat.le.dest hm
  rw [Rl_add, Rl_nil (fun t h1 h2 => h t h1 (by omega)), List.append_nil]
/-- Nothing ahead. -/
theorem Rl_ahead {a : Int → Int} {lo : Int} {n m : Nat} (h : ∀ t : Int, lo ≤ t → t < lo + n → a t ≤ 0) : Rl a lo (n + m) = Rl a (lo + n) m := by
  rw [Rl_add, Rl_nil h, List.nil_append]
/-- The payments at a year's end, and on death: by times. -/
theorem ends (T P : Int → Int) (D : Int) (k e : Nat) (h : ∀ t : Int, 0 ≤ t → t < 300 → P t = if t = 0 then 0 else if t ≤ k then T (t - 1) else if t = k + 1 then D else 0) (hk : k ≤ 130) (he : e ≤ 260) (hP : ∀ t : Int, (e : Int) < t → P t ≤ 0) :
    Rl (fun t => T (t - 1)) 1 k ++ opt ((k : Int) + 1) D = Rl P 0 (e + 1) := by
  have e1 : Rl P 0 300 = Rl P 0 (e + 1) := Rl_far (fun t h1 _ => hP t (by omega)) (by omega)
  have e2 : Rl P 0 300 = Rl P 0 (1 + (k + 1)) := Rl_far (fun t h1 h2 => by
    rw [h t (by omega) (by omega), if_neg (by omega), if_neg (by omega), if_neg (by omega)]; exact Int.le_refl 0) (by omega)
  have e3 : Rl P 0 (1 + (k + 1)) = Rl P (0 + (1 : Nat)) (k + 1) := Rl_ahead (fun t h1 h2 => by rw [h t (by omega) (by omega), if_pos (by omega)]; exact Int.le_refl 0)
  rw [← e1, e2, e3]
  simp only [Rl]
  have e4 : Rl P (0 + ((1 : Nat) : Int)) k = Rl (fun t => T (t - 1)) 1 k := Rl_congr (fun t h1 h2 => by rw [h t (by omega) (by omega), if_neg (by omega), if_pos (by omega)])
  rw [e4, h (0 + ((1 : Nat) : Int) + k) (by omega) (by omega), if_neg (by omega), if_neg (by omega), if_pos (by omega), show (0 + ((1 : Nat) : Int) + k) = (k : Int) + 1 by omega]
theorem on_iff (W T k : Int) : (on W T k = true) = (W ≤ k ∧ k < W + T) := by simp [on]
/-- The list of the program, of each kind. -/
def pl (F : Int) (W T n k : Nat) (a b c : Nat) : List (Int × Int) := ((Rl (fun _ => 1) F n ++ Lp (py a (W + n) (T - n)) (py b (W + n) (T - n)) k) ++ opt (k : Int) (py a (W + n) (T - n) k)) ++ opt ((k : Int) + 1) (py c (W + n) (T - n) k)
theorem same_1 (W T k : Nat) (hW : W ≤ 130) (hT : 1 ≤ T ∧ T ≤ 130) (hk : k ≤ 130) : pl W W T 0 k 0 0 1 = Rl (rp 1 W T 0 k) 0 (W + T + 1) := by
  unfold pl
  rw [Lp_T (py 0 _ _) _ (fun _ => Int.le_refl 0), show Rl (fun _ => 1) (W : Int) 0 = [] from rfl, List.nil_append, show opt (k : Int) (py 0 (W + (0 : Nat)) (T - (0 : Nat)) k) = [] from rfl, List.append_nil]
  refine ends _ _ _ k (W + T) (fun t h1 h2 => ?_) hk (by omega) (fun t h1 => ?_)
  · simp only [rp, py, on_iff]
    (repeat' split) <;> omega
  · simp only [rp]
    (repeat' split) <;> omega
theorem same_2 (W T k : Nat) (hW : W ≤ 130) (hT : 1 ≤ T ∧ T ≤ 130) (hk : k ≤ 130) : pl W W T 0 k 0 2 0 = Rl (rp 2 W T 0 k) 0 (W + T + 1) := by
  unfold pl
  rw [Lp_T (py 0 _ _) _ (fun _ => Int.le_refl 0), show Rl (fun _ => 1) (W : Int) 0 = [] from rfl, List.nil_append, show opt (k : Int) (py 0 (W + (0 : Nat)) (T - (0 : Nat)) k) = [] from rfl, List.append_nil]
  refine ends _ _ _ k (W + T) (fun t h1 h2 => ?_) hk (by omega) (fun t h1 => ?_)
  · simp only [rp, py]
    (repeat' split) <;> omega
  · simp only [rp]
    (repeat' split) <;> omega
theorem same_3 (W T k : Nat) (hW : W ≤ 130) (hT : 1 ≤ T ∧ T ≤ 130) (hk : k ≤ 130) : pl W W T 0 k 0 2 1 = Rl (rp 3 W T 0 k) 0 (W + T + 1) := by
  unfold pl
  rw [Lp_T (py 0 _ _) _ (fun _ => Int.le_refl 0), show Rl (fun _ => 1) (W : Int) 0 = [] from rfl, List.nil_append, show opt (k : Int) (py 0 (W + (0 : Nat)) (T - (0 : Nat)) k) = [] from rfl, List.append_nil]
  refine ends _ _ _ k (W + T) (fun t h1 h2 => ?_) hk (by omega) (fun t h1 => ?_)
  · simp only [rp, py, on_iff]
    (repeat' split) <;> omega
  · simp only [rp]
    (repeat' split) <;> omega
theorem same_6 (W T k : Nat) (hW : W ≤ 130) (hT : 1 ≤ T ∧ T ≤ 130) (hk : k ≤ 130) : pl W W T 0 k 0 0 3 = Rl (rp 6 W T 0 k) 0 (W + T + 1) := by
  unfold pl
  rw [Lp_T (py 0 _ _) _ (fun _ => Int.le_refl 0), show Rl (fun _ => 1) (W : Int) 0 = [] from rfl, List.nil_append, show opt (k : Int) (py 0 (W + (0 : Nat)) (T - (0 : Nat)) k) = [] from rfl, List.append_nil]
  refine ends _ _ _ k (W + T) (fun t h1 h2 => ?_) hk (by omega) (fun t h1 => ?_)
  · simp only [rp, py, on_iff]
    (repeat' split) <;> omega
  · simp only [rp]
    (repeat' split) <;> omega
theorem same_7 (W T k : Nat) (hW : W ≤ 130) (hT : 1 ≤ T ∧ T ≤ 130) (hk : k ≤ 130) : pl W W T 0 k 0 0 4 = Rl (rp 7 W T 0 k) 0 (W + T + 1) := by
  unfold pl
  rw [Lp_T (py 0 _ _) _ (fun _ => Int.le_refl 0), show Rl (fun _ => 1) (W : Int) 0 = [] from rfl, List.nil_append, show opt (k : Int) (py 0 (W + (0 : Nat)) (T - (0 : Nat)) k) = [] from rfl, List.append_nil]
  refine ends _ _ _ k (W + T) (fun t h1 h2 => ?_) hk (by omega) (fun t h1 => ?_)
  · simp only [rp, py, on_iff]
    (repeat' split) <;> omega
  · simp only [rp]
    (repeat' split) <;> omega
theorem same_5 (W T n k : Nat) (hW : W ≤ 130) (hT : 1 ≤ T ∧ T ≤ 130) (hn : n ≤ T) (hk : k ≤ 130) : pl (W + 1) W T n k 0 1 0 = Rl (rp 5 W T n k) 0 (W + T + 1) := by
  unfold pl
  rw [Lp_T (py 0 _ _) _ (fun _ => Int.le_refl 0), show opt (k : Int) (py 0 (W + (n : Nat)) (T - (n : Nat)) k) = [] from rfl, List.append_nil, show opt ((k : Int) + 1) (py 0 (W + (n : Nat)) (T - (n : Nat)) k) = [] from rfl, List.append_nil]
  have e1 : Rl (rp 5 W T n k) 0 (W + T + 1) = Rl (rp 5 W T n k) 0 ((W + 1) + (n + 300)) := (Rl_far (fun t h1 _ => by simp only [rp]; (repeat' split) <;> omega) (by omega)).symm
  have e2 : Rl (fun t => py 1 (W + n) (T - n) (t - 1)) 1 k = Rl (rp 5 W T n k) (0 + ((W + 1 : Nat) : Int) + n) 300 := by
    have a1 : Rl (fun t => if t = 0 ∨ (k : Int) < t then 0 else py 1 (W + n) (T - n) (t - 1)) 0 ((W + 1 + n) + 300) = Rl (fun t => if t = 0 ∨ (k : Int) < t then 0 else py 1 (W + n) (T - n) (t - 1)) 0 (1 + k) := Rl_far (fun t h1 _ => by rw [if_pos (by omega)]; exact Int.le_refl 0) (by omega)
    rw [Rl_ahead (n := 1) (fun t h1 h2 => by rw [if_pos (by omega)]; exact Int.le_refl 0), Rl_ahead (n := W + 1 + n) (fun t h1 h2 => by simp only [py, on_iff]; (repeat' split) <;> omega)] at a1
    have a2 : Rl (fun t => if t = 0 ∨ (k : Int) < t then 0 else py 1 (W + n) (T - n) (t - 1)) (0 + ((1 : Nat) : Int)) k = Rl (fun t => py 1 (W + n) (T - n) (t - 1)) 1 k := Rl_congr (fun t h1 h2 => by rw [if_neg (by omega)])
    rw [← a2, ← a1, show (0 : Int) + ((W + 1 + n : Nat) : Int) = 0 + ((W + 1 : Nat) : Int) + n by omega]
    refine Rl_congr (fun t h1 h2 => ?_)
    simp only [rp, py, on_iff]
    (repeat' split) <;> omega
  rw [e1, Rl_ahead (n := W + 1) (fun t h1 h2 => by simp only [rp]; (repeat' split) <;> omega), Rl_add, e2]
  congr 1
  rw [show (0 : Int) + ((W + 1 : Nat) : Int) = (W : Int) + 1 by omega]
  refine Rl_congr (fun t h1 h2 => ?_)
  simp only [rp]
  rw [if_pos (by omega)]
theorem same_4 (W T n k : Nat) (hW : W ≤ 130) (hT : 1 ≤ T ∧ T ≤ 130) (hn : n ≤ T) (hk : k ≤ 130) : pl W W T n k 1 0 0 = Rl (rp 4 W T n k) 0 (W + T + 1) := by
  unfold pl
  rw [Lp_N _ (py 0 _ _) (fun _ => Int.le_refl 0), show opt ((k : Int) + 1) (py 0 (W + (n : Nat)) (T - (n : Nat)) k) = [] from rfl, List.append_nil, List.append_assoc]
  have e0 : Rl (py 1 (W + n) (T - n)) 0 k ++ opt (k : Int) (py 1 (W + n) (T - n) k) = Rl (py 1 (W + n) (T - n)) 0 (k + 1) := by simp only [Rl, Int.zero_add]
  rw [e0]
  have e1 : Rl (rp 4 W T n k) 0 (W + T + 1) = Rl (rp 4 W T n k) 0 (W + (n + 300)) := (Rl_far (fun t h1 _ => by simp only [rp]; (repeat' split) <;> omega) (by omega)).symm
  have e2 : Rl (py 1 (W + n) (T - n)) 0 (k + 1) = Rl (rp 4 W T n k) (0 + (W : Int) + n) 300 := by
    have a1 : Rl (fun t => if (k : Int) < t then 0 else py 1 (W + n) (T - n) t) 0 ((W + n) + 300) = Rl (fun t => if (k : Int) < t then 0 else py 1 (W + n) (T - n) t) 0 (k + 1) := Rl_far (fun t h1 _ => by rw [if_pos (by omega)]; exact Int.le_refl 0) (by omega)
    rw [Rl_ahead (n := W + n) (fun t h1 h2 => by simp only [py, on_iff]; (repeat' split) <;> omega)] at a1
    have a2 : Rl (fun t => if (k : Int) < t then 0 else py 1 (W + n) (T - n) t) 0 (k + 1) = Rl (py 1 (W + n) (T - n)) 0 (k + 1) := Rl_congr (fun t h1 h2 => by rw [if_neg (by omega)])
    rw [← a2, ← a1, show (0 : Int) + ((W + n : Nat) : Int) = 0 + (W : Int) + n by omega]
    refine Rl_congr (fun t h1 h2 => ?_)
    simp only [rp, py, on_iff]
    (repeat' split) <;> omega
  rw [e2, e1, Rl_ahead (n := W) (fun t h1 h2 => by simp only [rp]; (repeat' split) <;> omega), Rl_add]
  congr 1
  rw [Int.zero_add]
  refine Rl_congr (fun t h1 h2 => ?_)
  simp only [rp]
  rw [if_pos (by omega)]
end Go.Proofs.Ytbfaebaoekimhaa.Vf
