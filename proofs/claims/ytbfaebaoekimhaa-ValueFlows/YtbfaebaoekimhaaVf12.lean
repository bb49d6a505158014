import Derived.Test.YtbfaebaoekimhaaVf6a
import Derived.Test.YtbfaebaoekimhaaVf6b
import Derived.Test.YtbfaebaoekimhaaVf6c
import Derived.Test.YtbfaebaoekimhaaVf6d
import Derived.Test.YtbfaebaoekimhaaVf9
import Derived.Test.YtbfaebaoekimhaaVf10
import Derived.Test.YtbfaebaoekimhaaVf11
namespace Go.Proofs.Ytbfaebaoekimhaa.Vf
open Go.RowKit Tn

/-- What is told of a list of payments. -/
def Po (L : List (Int × Int)) (R : Int) (w : World) (e : Ending) (w' : World) : Prop := ∃ v, e = .returned (.tuple #[v, .int .i64 R]) ∧ w'.ownsRow w.heap.size 34 2 v L.length (fc L) ∧ Below w.heap.size w w'
theorem pl_len (F : Int) (W T n k a b c : Nat) (hn : n ≤ 130) (hk : k ≤ 130) : (pl F W T n k a b c).length ≤ 4096 := by
  unfold pl
  have h1 := Rl_len (fun _ => 1) F n
  have h2 := Lp_len (py a (W + n) (T - n)) (py b (W + n) (T - n)) k
  have h3 := opt_len (k : Int) (py a (W + n) (T - n) k)
  have h4 := opt_len ((k : Int) + 1) (py c (W + n) (T - n) k)
  simp only [List.length_append]
  omega
theorem both_1 (W T k : Nat) (hW : W ≤ 130) (hT : 1 ≤ T ∧ T ≤ 130) (hk : k ≤ 130) (ok : okB 1 W T ((0 : Nat) : Int) = true) :
    (∀ w, Calls Try.prog 5 #[bn 1 W T ((0 : Nat) : Int), .int .i64 (k : Int)] w (Po (pl (W : Int) W T 0 k 0 0 1) 0 w)) ∧ (∀ w, Calls Try.prog 6 #[bn 1 W T ((0 : Nat) : Int), .int .i64 (k : Int)] w (Po (pl (W : Int) W T 0 k 0 0 1) 0 w)) := by
  have C := fun x => Check_any 1 W T ((0 : Nat) : Int) x
  have D := fun x => RCheck_any 1 W T ((0 : Nat) : Int) x
  rw [ok] at C D
  refine ⟨fun w => ?_, fun w => ?_⟩
  · exact Flows_y1 1 W T (W + ((0 : Nat) : Int)) (T - ((0 : Nat) : Int)) (W : Int) 0 k (py 0 (W + ((0 : Nat) : Int)) (T - ((0 : Nat) : Int))) (py 0 (W + ((0 : Nat) : Int)) (T - ((0 : Nat) : Int))) (py 1 (W + ((0 : Nat) : Int)) (T - ((0 : Nat) : Int))) w hk (by omega) (by omega) C (fun x => sure_w 1 W T 0 _ x (by omega) (by omega) (Or.inr ⟨by decide, rfl⟩)) (fun x => kindOf_c 1 x) (fun x => unsure_c 1 W T ((0 : Nat) : Int) x (by omega) (by omega) (by omega))
      (fun x j _ _ => never_c 1 _ _ 0 j x) (fun x j _ _ => never_c 1 _ _ 0 j x) (fun x j h0 h1 => yearly_c 1 (W + ((0 : Nat) : Int)) (T - ((0 : Nat) : Int)) 0 j x (by omega) (by omega))
  · rw [same_1 W T k hW hT hk]
    exact RFlows_yes 1 W T ((0 : Nat) : Int) (W + T) k (W + T + 1) (rp 1 W T ((0 : Nat) : Int) k) w hk (by omega) (by omega) (wrapI _ (by omega) (by omega)) D (fun x t _ => Pays_1 W T ((0 : Nat) : Int) k t x (by omega) (by omega) (by omega))
theorem both_2 (W T k : Nat) (hW : W ≤ 130) (hT : 1 ≤ T ∧ T ≤ 130) (hk : k ≤ 130) (ok : okB 2 W T ((0 : Nat) : Int) = true) :
    (∀ w, Calls Try.prog 5 #[bn 2 W T ((0 : Nat) : Int), .int .i64 (k : Int)] w (Po (pl (W : Int) W T 0 k 0 2 0) 0 w)) ∧ (∀ w, Calls Try.prog 6 #[bn 2 W T ((0 : Nat) : Int), .int .i64 (k : Int)] w (Po (pl (W : Int) W T 0 k 0 2 0) 0 w)) := by
  have C := fun x => Check_any 2 W T ((0 : Nat) : Int) x
  have D := fun x => RCheck_any 2 W T ((0 : Nat) : Int) x
  rw [ok] at C D
  refine ⟨fun w => ?_, fun w => ?_⟩
  · exact Flows_y2 2 W T (W + ((0 : Nat) : Int)) (T - ((0 : Nat) : Int)) (W : Int) 0 k (py 0 (W + ((0 : Nat) : Int)) (T - ((0 : Nat) : Int))) (py 2 (W + ((0 : Nat) : Int)) (T - ((0 : Nat) : Int))) (py 0 (W + ((0 : Nat) : Int)) (T - ((0 : Nat) : Int))) w hk (by omega) (by omega) C (fun x => sure_w 2 W T 0 _ x (by omega) (by omega) (Or.inr ⟨by decide, rfl⟩)) (fun x => kindOf_c 2 x) (fun x => unsure_c 2 W T ((0 : Nat) : Int) x (by omega) (by omega) (by omega))
      (fun x j _ _ => never_c 2 _ _ 0 j x) (fun x j h0 h1 => atLast_c 2 (W + ((0 : Nat) : Int)) (T - ((0 : Nat) : Int)) 0 j x (by omega) (by omega) (by omega)) (fun x j _ _ => never_c 2 _ _ 0 j x)
  · rw [same_2 W T k hW hT hk]
    exact RFlows_yes 2 W T ((0 : Nat) : Int) (W + T) k (W + T + 1) (rp 2 W T ((0 : Nat) : Int) k) w hk (by omega) (by omega) (wrapI _ (by omega) (by omega)) D (fun x t _ => Pays_2 W T ((0 : Nat) : Int) k t x (by omega) (by omega) (by omega))
theorem both_3 (W T k : Nat) (hW : W ≤ 130) (hT : 1 ≤ T ∧ T ≤ 130) (hk : k ≤ 130) (ok : okB 3 W T ((0 : Nat) : Int) = true) :
    (∀ w, Calls Try.prog 5 #[bn 3 W T ((0 : Nat) : Int), .int .i64 (k : Int)] w (Po (pl (W : Int) W T 0 k 0 2 1) 0 w)) ∧ (∀ w, Calls Try.prog 6 #[bn 3 W T ((0 : Nat) : Int), .int .i64 (k : Int)] w (Po (pl (W : Int) W T 0 k 0 2 1) 0 w)) := by
  have C := fun x => Check_any 3 W T ((0 : Nat) : Int) x
  have D := fun x => RCheck_any 3 W T ((0 : Nat) : Int) x
  rw [ok] at C D
  refine ⟨fun w => ?_, fun w => ?_⟩
  · exact Flows_y3 3 W T (W + ((0 : Nat) : Int)) (T - ((0 : Nat) : Int)) (W : Int) 0 k (py 0 (W + ((0 : Nat) : Int)) (T - ((0 : Nat) : Int))) (py 2 (W + ((0 : Nat) : Int)) (T - ((0 : Nat) : Int))) (py 1 (W + ((0 : Nat) : Int)) (T - ((0 : Nat) : Int))) w hk (by omega) (by omega) C (fun x => sure_w 3 W T 0 _ x (by omega) (by omega) (Or.inr ⟨by decide, rfl⟩)) (fun x => kindOf_c 3 x) (fun x => unsure_c 3 W T ((0 : Nat) : Int) x (by omega) (by omega) (by omega))
      (fun x j _ _ => never_c 3 _ _ 0 j x) (fun x j h0 h1 => atLast_c 3 (W + ((0 : Nat) : Int)) (T - ((0 : Nat) : Int)) 0 j x (by omega) (by omega) (by omega)) (fun x j h0 h1 => yearly_c 3 (W + ((0 : Nat) : Int)) (T - ((0 : Nat) : Int)) 0 j x (by omega) (by omega))
  · rw [same_3 W T k hW hT hk]
    exact RFlows_yes 3 W T ((0 : Nat) : Int) (W + T) k (W + T + 1) (rp 3 W T ((0 : Nat) : Int) k) w hk (by omega) (by omega) (wrapI _ (by omega) (by omega)) D (fun x t _ => Pays_3 W T ((0 : Nat) : Int) k t x (by omega) (by omega) (by omega))
theorem both_4 (W T k : Nat) (n : Nat) (hn : n ≤ T) (hW : W ≤ 130) (hT : 1 ≤ T ∧ T ≤ 130) (hk : k ≤ 130) (ok : okB 4 W T (n : Int) = true) :
    (∀ w, Calls Try.prog 5 #[bn 4 W T (n : Int), .int .i64 (k : Int)] w (Po (pl (W : Int) W T n k 1 0 0) 0 w)) ∧ (∀ w, Calls Try.prog 6 #[bn 4 W T (n : Int), .int .i64 (k : Int)] w (Po (pl (W : Int) W T n k 1 0 0) 0 w)) := by
  have C := fun x => Check_any 4 W T (n : Int) x
  have D := fun x => RCheck_any 4 W T (n : Int) x
  rw [ok] at C D
  refine ⟨fun w => ?_, fun w => ?_⟩
  · exact Flows_y4 4 W T (W + (n : Int)) (T - (n : Int)) (W : Int) n k (py 1 (W + (n : Int)) (T - (n : Int))) (py 0 (W + (n : Int)) (T - (n : Int))) (py 0 (W + (n : Int)) (T - (n : Int))) w hk (by omega) (by omega) C (fun x => sure_w 4 W T n _ x (by omega) (by omega) (Or.inr ⟨by decide, rfl⟩)) (fun x => kindOf_c 4 x) (fun x => unsure_c 4 W T (n : Int) x (by omega) (by omega) (by omega))
      (fun x j h0 h1 => yearly_c 4 (W + (n : Int)) (T - (n : Int)) 0 j x (by omega) (by omega)) (fun x j _ _ => never_c 4 _ _ 0 j x) (fun x j _ _ => never_c 4 _ _ 0 j x)
  · rw [same_4 W T n k hW hT hn hk]
    exact RFlows_yes 4 W T (n : Int) (W + T) k (W + T + 1) (rp 4 W T (n : Int) k) w hk (by omega) (by omega) (wrapI _ (by omega) (by omega)) D (fun x t _ => Pays_4 W T (n : Int) k t x (by omega) (by omega) (by omega) (by omega))
theorem both_5 (W T k : Nat) (n : Nat) (hn : n ≤ T) (hW : W ≤ 130) (hT : 1 ≤ T ∧ T ≤ 130) (hk : k ≤ 130) (ok : okB 5 W T (n : Int) = true) :
    (∀ w, Calls Try.prog 5 #[bn 5 W T (n : Int), .int .i64 (k : Int)] w (Po (pl ((W : Int) + 1) W T n k 0 1 0) 0 w)) ∧ (∀ w, Calls Try.prog 6 #[bn 5 W T (n : Int), .int .i64 (k : Int)] w (Po (pl ((W : Int) + 1) W T n k 0 1 0) 0 w)) := by
  have C := fun x => Check_any 5 W T (n : Int) x
  have D := fun x => RCheck_any 5 W T (n : Int) x
  rw [ok] at C D
  refine ⟨fun w => ?_, fun w => ?_⟩
  · exact Flows_y5 5 W T (W + (n : Int)) (T - (n : Int)) ((W : Int) + 1) n k (py 0 (W + (n : Int)) (T - (n : Int))) (py 1 (W + (n : Int)) (T - (n : Int))) (py 0 (W + (n : Int)) (T - (n : Int))) w hk (by omega) (by omega) C (fun x => sure_w 5 W T n _ x (by omega) (by omega) (Or.inl ⟨rfl, rfl⟩)) (fun x => kindOf_c 5 x) (fun x => unsure_c 5 W T (n : Int) x (by omega) (by omega) (by omega))
      (fun x j _ _ => never_c 5 _ _ 0 j x) (fun x j h0 h1 => yearly_c 5 (W + (n : Int)) (T - (n : Int)) 0 j x (by omega) (by omega)) (fun x j _ _ => never_c 5 _ _ 0 j x)
  · rw [same_5 W T n k hW hT hn hk]
    exact RFlows_yes 5 W T (n : Int) (W + T) k (W + T + 1) (rp 5 W T (n : Int) k) w hk (by omega) (by omega) (wrapI _ (by omega) (by omega)) D (fun x t _ => Pays_5 W T (n : Int) k t x (by omega) (by omega) (by omega) (by omega))
theorem both_6 (W T k : Nat) (hW : W ≤ 130) (hT : 1 ≤ T ∧ T ≤ 130) (hk : k ≤ 130) (ok : okB 6 W T ((0 : Nat) : Int) = true) :
    (∀ w, Calls Try.prog 5 #[bn 6 W T ((0 : Nat) : Int), .int .i64 (k : Int)] w (Po (pl (W : Int) W T 0 k 0 0 3) 0 w)) ∧ (∀ w, Calls Try.prog 6 #[bn 6 W T ((0 : Nat) : Int), .int .i64 (k : Int)] w (Po (pl (W : Int) W T 0 k 0 0 3) 0 w)) := by
  have C := fun x => Check_any 6 W T ((0 : Nat) : Int) x
  have D := fun x => RCheck_any 6 W T ((0 : Nat) : Int) x
  rw [ok] at C D
  refine ⟨fun w => ?_, fun w => ?_⟩
  · exact Flows_y6 6 W T (W + ((0 : Nat) : Int)) (T - ((0 : Nat) : Int)) (W : Int) 0 k (py 0 (W + ((0 : Nat) : Int)) (T - ((0 : Nat) : Int))) (py 0 (W + ((0 : Nat) : Int)) (T - ((0 : Nat) : Int))) (py 3 (W + ((0 : Nat) : Int)) (T - ((0 : Nat) : Int))) w hk (by omega) (by omega) C (fun x => sure_w 6 W T 0 _ x (by omega) (by omega) (Or.inr ⟨by decide, rfl⟩)) (fun x => kindOf_c 6 x) (fun x => unsure_c 6 W T ((0 : Nat) : Int) x (by omega) (by omega) (by omega))
      (fun x j _ _ => never_c 6 _ _ 0 j x) (fun x j _ _ => never_c 6 _ _ 0 j x) (fun x j h0 h1 => rising_c 6 (W + ((0 : Nat) : Int)) (T - ((0 : Nat) : Int)) 0 j x (by omega) (by omega) (by omega))
  · rw [same_6 W T k hW hT hk]
    exact RFlows_yes 6 W T ((0 : Nat) : Int) (W + T) k (W + T + 1) (rp 6 W T ((0 : Nat) : Int) k) w hk (by omega) (by omega) (wrapI _ (by omega) (by omega)) D (fun x t _ => Pays_6 W T ((0 : Nat) : Int) k t x (by omega) (by omega) (by omega))
theorem both_7 (W T k : Nat) (hW : W ≤ 130) (hT : 1 ≤ T ∧ T ≤ 130) (hk : k ≤ 130) (ok : okB 7 W T ((0 : Nat) : Int) = true) :
    (∀ w, Calls Try.prog 5 #[bn 7 W T ((0 : Nat) : Int), .int .i64 (k : Int)] w (Po (pl (W : Int) W T 0 k 0 0 4) 0 w)) ∧ (∀ w, Calls Try.prog 6 #[bn 7 W T ((0 : Nat) : Int), .int .i64 (k : Int)] w (Po (pl (W : Int) W T 0 k 0 0 4) 0 w)) := by
  have C := fun x => Check_any 7 W T ((0 : Nat) : Int) x
  have D := fun x => RCheck_any 7 W T ((0 : Nat) : Int) x
  rw [ok] at C D
  refine ⟨fun w => ?_, fun w => ?_⟩
  · exact Flows_y7 7 W T (W + ((0 : Nat) : Int)) (T - ((0 : Nat) : Int)) (W : Int) 0 k (py 0 (W + ((0 : Nat) : Int)) (T - ((0 : Nat) : Int))) (py 0 (W + ((0 : Nat) : Int)) (T - ((0 : Nat) : Int))) (py 4 (W + ((0 : Nat) : Int)) (T - ((0 : Nat) : Int))) w hk (by omega) (by omega) C (fun x => sure_w 7 W T 0 _ x (by omega) (by omega) (Or.inr ⟨by decide, rfl⟩)) (fun x => kindOf_c 7 x) (fun x => unsure_c 7 W T ((0 : Nat) : Int) x (by omega) (by omega) (by omega))
      (fun x j _ _ => never_c 7 _ _ 0 j x) (fun x j _ _ => never_c 7 _ _ 0 j x) (fun x j h0 h1 => falling_c 7 (W + ((0 : Nat) : Int)) (T - ((0 : Nat) : Int)) 0 j x (by omega) (by omega) (by omega))
  · rw [same_7 W T k hW hT hk]
    exact RFlows_yes 7 W T ((0 : Nat) : Int) (W + T) k (W + T + 1) (rp 7 W T ((0 : Nat) : Int) k) w hk (by omega) (by omega) (wrapI _ (by omega) (by omega)) D (fun x t _ => Pays_7 W T ((0 : Nat) : Int) k t x (by omega) (by omega) (by omega))
/-- Both sides tell the same of any benefit, in any year. -/
theorem both_any (K W T S k : Int) : ∃ L R, L.length ≤ 4096 ∧ (∀ w, Calls Try.prog 5 #[bn K W T S, .int .i64 k] w (Po L R w)) ∧ (∀ w, Calls Try.prog 6 #[bn K W T S, .int .i64 k] w (Po L R w)) := by
  have nil : ∀ (R : Int) (w w' : World) (e : Ending), e = .returned (.tuple #[.slice none 0 0, .int .i64 R]) ∧ Below w.heap.size w w' → Po [] R w e w' := fun R w w' e h => ⟨_, h.1, ⟨rfl, Or.inl ⟨rfl, rfl⟩⟩, h.2⟩
  cases ok : okB K W T S
  · exact ⟨[], 130, by simp, fun w => (Flows_bad K W T S k w ok).mono fun e w' h => nil _ _ _ _ h, fun w => (RFlows_bad K W T S k w ok).mono fun e w' h => nil _ _ _ _ h⟩
  by_cases hk : k < 0 ∨ 130 < k
  · exact ⟨[], 1, by simp, fun w => (Flows_range K W T S k w ok hk).mono fun e w' h => nil _ _ _ _ h, fun w => (RFlows_range K W T S k w ok hk).mono fun e w' h => nil _ _ _ _ h⟩
  have ok' := ok
  unfold okB at ok'
  rw [kd_b] at ok'
  simp only [Bool.and_eq_true, decide_eq_true_eq] at ok'
  obtain ⟨⟨⟨⟨⟨⟨⟨h1, h7⟩, w0⟩, w1⟩, t0⟩, t1⟩, s0⟩, s1⟩ := ok'
  obtain ⟨W, rfl⟩ := Int.eq_ofNat_of_zero_le w0
  obtain ⟨T, rfl⟩ := Int.eq_ofNat_of_zero_le (show 0 ≤ T by omega)
  obtain ⟨S, rfl⟩ := Int.eq_ofNat_of_zero_le s0
  obtain ⟨k, rfl⟩ := Int.eq_ofNat_of_zero_le (show 0 ≤ k by omega)
  unfold ms at s1
  rcases (show K = 1 ∨ K = 2 ∨ K = 3 ∨ K = 4 ∨ K = 5 ∨ K = 6 ∨ K = 7 by omega) with rfl | rfl | rfl | rfl | rfl | rfl | rfl
  · obtain rfl : S = 0 := by rw [if_neg (by omega)] at s1; omega
    exact ⟨_, 0, pl_len (W : Int) W T 0 k 0 0 1 (by omega) (by omega), both_1 W T k (by omega) (by omega) (by omega) ok⟩
  · obtain rfl : S = 0 := by rw [if_neg (by omega)] at s1; omega
    exact ⟨_, 0, pl_len (W : Int) W T 0 k 0 2 0 (by omega) (by omega), both_2 W T k (by omega) (by omega) (by omega) ok⟩
  · obtain rfl : S = 0 := by rw [if_neg (by omega)] at s1; omega
    exact ⟨_, 0, pl_len (W : Int) W T 0 k 0 2 1 (by omega) (by omega), both_3 W T k (by omega) (by omega) (by omega) ok⟩
  · have hs : S ≤ T := by rw [if_pos (by omega)] at s1; omega
    exact ⟨_, 0, pl_len (W : Int) W T S k 1 0 0 (by omega) (by omega), both_4 W T k S hs (by omega) (by omega) (by omega) ok⟩
  · have hs : S ≤ T := by rw [if_pos (by omega)] at s1; omega
    exact ⟨_, 0, pl_len ((W : Int) + 1) W T S k 0 1 0 (by omega) (by omega), both_5 W T k S hs (by omega) (by omega) (by omega) ok⟩
  · obtain rfl : S = 0 := by rw [if_neg (by omega)] at s1; omega
    exact ⟨_, 0, pl_len (W : Int) W T 0 k 0 0 3 (by omega) (by omega), both_6 W T k (by omega) (by omega) (by omega) ok⟩
  · obtain rfl : S = 0 := by rw [if_neg (by omega)] at s1; omega
    exact ⟨_, 0, pl_len (W : Int) W T 0 k 0 0 4 (by omega) (by omega), both_7 W T k (by omega) (by omega) (by omega) ok⟩
end Go.Proofs.Ytbfaebaoekimhaa.Vf
