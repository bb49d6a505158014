import Derived.Test.YtiaeoknmgidehaaGreatDoorPart42
import Derived.Test.YtiaeoknmgidehaaGreatDoorPart40
import Derived.Test.YtiaeoknmgidehaaGreatDoorPart35
import Derived.Test.YtiaeoknmgidehaaGreatDoorPart26
import Derived.Test.YtiaeoknmgidehaaGreatDoorPart27
import Derived.Test.YtiaeoknmgidehaaGreatDoorPart28
import Derived.Test.YtiaeoknmgidehaaGreatDoorPart29
import Derived.Test.YtiaeoknmgidehaaGreatDoorPart30
import Derived.Test.YtiaeoknmgidehaaGreatDoorPart08
import Derived.Test.YtiaeoknmgidehaaGreatDoorPart36
import Derived.Lib.SmallJoins

namespace Go.Proofs.YtiaeoknmgidehaaGreatDoor.Ta
open Go.RowKit Go.Proofs.YtiaeoknmgidehaaGreatDoor.Mo Ip

/-- What is wrong: of the table, of the life, of the number of years. -/
def wr (c : Int) (ok : Bool) (n : Int) : Int := if c ≠ 0 then c else if ok = false then 8 else if 0 ≤ n ∧ n ≤ 130 then 0 else 1
theorem wr_0 {c : Int} {ok : Bool} {n : Int} (h : wr c ok n = 0) : c = 0 ∧ ok = true ∧ 0 ≤ n ∧ n ≤ 130 := by
  unfold wr at h
  by_cases h1 : c ≠ 0
  · rw [if_pos h1] at h; exact absurd h h1
  · rw [if_neg h1] at h
    cases ok
    · rw [if_pos rfl] at h; exact absurd h (by decide)
    · rw [if_neg (by decide)] at h
      by_cases h2 : 0 ≤ n ∧ n ≤ 130
      · exact ⟨Classical.not_not.1 h1, rfl, h2.1, h2.2⟩
      · rw [if_neg h2] at h; exact absurd h (by decide)
theorem wr_c {c : Int} {ok : Bool} {n : Int} (h : c ≠ 0) : wr c ok n = c := by unfold wr; rw [if_pos h]
theorem wr_8 {n : Int} : wr 0 false n = 8 := rfl
theorem wr_1 {n : Int} (h : ¬ (0 ≤ n ∧ n ≤ 130)) : wr 0 true n = 1 := by unfold wr; rw [if_neg (by decide), if_neg (by decide), if_neg h]
theorem wr_k {n : Int} (h : 0 ≤ n ∧ n ≤ 130) : wr 0 true n = 0 := by unfold wr; rw [if_neg (by decide), if_neg (by decide), if_pos h]
/-- How many rates there are. -/
def lft (f : Int) (rs : List Int) (en ys : Int) : Nat := (f + rs.length - en - ys).toNat
theorem lft_ok {f : Int} {rs : List Int} {en ys : Int} (h : okL f rs en ys = true) : (lft f rs en ys : Int) = f + rs.length - en - ys ∧ 0 < lft f rs en ys := by
  obtain ⟨o1, o2, o3, o4⟩ := of_decide_eq_true h
  unfold lft; omega
/-- The chance to live n years. -/
def svn (f : Int) (rs : List Int) (sel : List (List Int)) (en ys : Int) (n : Nat) : Rat := sv (rt f rs sel en ys) (min n (lft f rs en ys))
/-- What Rate tells. -/
def aR (e f : Int) (rs : List Int) (sel : List (List Int)) (en ys n : Int) : Value := if e ≠ 0 then .tuple #[.int .i64 0, .int .i64 e] else if (lft f rs en ys : Int) ≤ n then .tuple #[.int .i64 0, .int .i64 7] else .tuple #[.int .i64 (rt f rs sel en ys n.toNat), .int .i64 0]
/-- What is told: an exact number, or what is wrong. -/
def aE (e : Int) (r : Rat) : Value := if e ≠ 0 then .tuple #[.agg #[.string ⟨#[]⟩, .string ⟨#[]⟩], .int .i64 e] else .tuple #[wrt r, .int .i64 0]
theorem aE_form (e : Int) (r : Rat) : ∃ s t k, aE e r = .tuple #[.agg #[.string s, .string t], .int .i64 k] := by
  unfold aE
  by_cases h : e ≠ 0
  · rw [if_pos h]; exact ⟨_, _, _, rfl⟩
  · rw [if_neg h]; exact ⟨_, _, _, rfl⟩
theorem aR_form (e f : Int) (rs : List Int) (sel : List (List Int)) (en ys n : Int) : ∃ q k, aR e f rs sel en ys n = .tuple #[.int .i64 q, .int .i64 k] := by
  unfold aR
  by_cases h : e ≠ 0
  · rw [if_pos h]; exact ⟨_, _, rfl⟩
  · rw [if_neg h]
    by_cases h : (lft f rs en ys : Int) ≤ n
    · rw [if_pos h]; exact ⟨_, _, rfl⟩
    · rw [if_neg h]; exact ⟨_, _, rfl⟩
theorem bne_0 {c : Int} (h : c ≠ 0) : (c != 0) = true := by simpa using h
theorem q_bd {s : ByteArray} {f : Int} {rs : List Int} {sel : List (List Int)} {en ys : Int} (h : chk s f rs sel = 0) (h2 : okL f rs en ys = true) : (∀ k, k < lft f rs en ys → 0 ≤ rt f rs sel en ys k ∧ rt f rs sel en ys k ≤ 10000000) ∧ lft f rs en ys ≤ 131 ∧ al (rt f rs sel en ys) (lft f rs en ys) = 0 := by
  obtain ⟨_, f1, r1, s1⟩ := of_chk_0 h
  obtain ⟨e, p⟩ := lft_ok h2
  obtain ⟨o1, o2, o3, o4⟩ := of_decide_eq_true h2
  refine ⟨fun k hk => ?_, by omega, ?_⟩
  · obtain ⟨a, b, _⟩ := rt_bd (n := k) r1 s1 h2 (by omega)
    exact ⟨a, b⟩
  · obtain ⟨m, hm⟩ : ∃ m, lft f rs en ys = m + 1 := ⟨lft f rs en ys - 1, by omega⟩
    have := (rt_bd (n := m) r1 s1 h2 (by omega)).2.2.2 (by omega)
    rw [hm]
    show al _ m * (10000000 - rt f rs sel en ys m) = 0
    rw [this]; simp
theorem sv_bd {q : Nat → Int} {N : Nat} (hq : ∀ k, k < N → 0 ≤ q k ∧ q k ≤ 10000000) {k : Nat} (h : k ≤ N) (hN : N ≤ 131) : Bd (sv q k) 3200 := by
  have a := al_bd hq k h
  have p := Nat.pow_lt_pow_right (show 1 < 2 by decide) (show 24 * k < 3200 by omega)
  have d := lt_pow2 (a := 10000000) (m := 24) (by decide) k
  have p2 := Nat.pow_le_pow_right (show 0 < 2 by decide) (show 24 * k + 1 ≤ 3200 by omega)
  refine Bd.mk ?_ (Nat.lt_of_lt_of_le d p2) (by have := Nat.pow_pos (n := k) (show 0 < 10000000 by decide); omega)
  generalize (2 : Nat) ^ 3200 = Z at *
  omega
theorem sv_end {q : Nat → Int} {N : Nat} (h : al q N = 0) : sv q N = ((0 : Int) : Rat) := by
  unfold sv; rw [h]; simp
theorem Bd.neg {r : Rat} {B : Nat} (h : Bd r B) : Bd (-r) B := by
  unfold Bd at *
  rw [Rat.neg_num, Rat.neg_den, Int.natAbs_neg]; exact h
theorem cf_bad (s : ByteArray) (f : Int) (vr vs : Value) (rs : List Int) (sel : List (List Int)) (en ys n : Int) (w : World) (hs : s.size ≤ 140737488351232) (hr : Rx w vr rs) (hsel : Rr w vs sel) (hv : wr (chk s f rs sel) (okL f rs en ys) n ≠ 0) (x : World) (b : Below w.heap.size w x) : Calls Tryz.prog 54 #[.agg #[.string s, .int .i64 f, vr, vs], .agg #[.int .i64 en, .int .i64 ys], .int .i64 n] x fun e w' => e = .returned (.tuple #[.slice none 0 0, .int .i64 (wr (chk s f rs sel) (okL f rs en ys) n)]) ∧ Below x.heap.size x w' := by
  by_cases c1 : chk s f rs sel = 0
  · cases c2 : okL f rs en ys
    · rw [c1, wr_8]
      exact comingFor_e s f vr vs en ys n 8 x rfl (fun y b' => coming_no s f vr vs rs sel en ys y hs (hr.grow (bel' b b')) (hsel.grow (bel' b b')) c1 c2)
    · rw [c1, c2] at hv
      have h3 : ¬ (0 ≤ n ∧ n ≤ 130) := fun h => hv (wr_k h)
      rw [c1, wr_1 h3]
      have h4 : (decide (0 ≤ n) && decide (n ≤ 130)) = false := by rw [← Bool.decide_and]; exact decide_eq_false h3
      refine comingFor_r s f vr vs en ys n (lft f rs en ys) (rt f rs sel en ys) x h4 (fun y b' => (coming_ok s f vr vs rs sel en ys y hs (hr.grow (bel' b b')) (hsel.grow (bel' b b')) c1 c2 (lft f rs en ys) (lft_ok c2).1).mono ?_)
      rintro e w' ⟨g, rfl, _, R, bb⟩
      exact ⟨g, rfl, R, bb⟩
  · rw [wr_c c1]
    exact comingFor_e s f vr vs en ys n _ x (bne_0 c1) (fun y b' => coming_bad s f vr vs rs sel en ys y hs (hr.grow (bel' b b')) (hsel.grow (bel' b b')) c1)
theorem cf_ok (s : ByteArray) (f : Int) (vr vs : Value) (rs : List Int) (sel : List (List Int)) (en ys n : Int) (w : World) (hs : s.size ≤ 140737488351232) (hr : Rx w vr rs) (hsel : Rr w vs sel) (hv : wr (chk s f rs sel) (okL f rs en ys) n = 0) (x : World) (b : Below w.heap.size w x) : Calls Tryz.prog 54 #[.agg #[.string s, .int .i64 f, vr, vs], .agg #[.int .i64 en, .int .i64 ys], .int .i64 n] x fun e w' => ∃ g, e = .returned (.tuple #[.slice (some ⟨g, 0, none⟩) (lft f rs en ys) (lft f rs en ys), .int .i64 0]) ∧ Rc w' g (lft f rs en ys) (lft f rs en ys) (rt f rs sel en ys) ∧ Below x.heap.size x w' := by
  obtain ⟨c1, c2, h3⟩ := wr_0 hv
  have h4 : (decide (0 ≤ n) && decide (n ≤ 130)) = true := by rw [← Bool.decide_and]; exact decide_eq_true h3
  refine comingFor_k s f vr vs en ys n (lft f rs en ys) (rt f rs sel en ys) x h4 (fun y b' => (coming_ok s f vr vs rs sel en ys y hs (hr.grow (bel' b b')) (hsel.grow (bel' b b')) c1 c2 (lft f rs en ys) (lft_ok c2).1).mono ?_)
  rintro e w' ⟨g, rfl, _, R, bb⟩
  exact ⟨g, rfl, R, bb⟩
theorem Rate_any (s : ByteArray) (f : Int) (vr vs : Value) (rs : List Int) (sel : List (List Int)) (en ys n : Int) (w : World) (hs : s.size ≤ 140737488351232) (hr : Rx w vr rs) (hsel : Rr w vs sel) : Calls Tryz.prog 20 #[.agg #[.string s, .int .i64 f, vr, vs], .agg #[.int .i64 en, .int .i64 ys], .int .i64 n] w fun e w' => e = .returned (aR (wr (chk s f rs sel) (okL f rs en ys) n) f rs sel en ys n) ∧ Below w.heap.size w w' := by
  by_cases hv : wr (chk s f rs sel) (okL f rs en ys) n = 0
  · have C := cf_ok s f vr vs rs sel en ys n w hs hr hsel hv
    rw [hv]
    unfold aR
    rw [if_neg (by decide)]
    by_cases h : (lft f rs en ys : Int) ≤ n
    · rw [if_pos h]
      exact Rate_none s f vr vs en ys n _ _ w h C
    · rw [if_neg h]
      obtain ⟨_, _, h3, _⟩ := wr_0 hv
      obtain ⟨m, rfl⟩ : ∃ m : Nat, n = m := ⟨n.toNat, by omega⟩
      rw [Int.toNat_natCast]
      exact Rate_k s f vr vs en ys m _ _ w (by omega) C
  · unfold aR
    rw [if_pos hv]
    exact Rate_e s f vr vs en ys n _ w (bne_0 hv) (cf_bad s f vr vs rs sel en ys n w hs hr hsel hv)
theorem surv_p (s : ByteArray) (f : Int) (rs : List Int) (sel : List (List Int)) (en ys : Int) (h : chk s f rs sel = 0) (h2 : okL f rs en ys = true) (m : Nat) (x : World) (g : Nat) (R : Rc x g (lft f rs en ys) (lft f rs en ys) (rt f rs sel en ys)) : Calls Tryz.prog 57 #[.slice (some ⟨g, 0, none⟩) (lft f rs en ys) (lft f rs en ys), .int .i64 (m : Int)] x (Fa (svn f rs sel en ys m) x) := by
  obtain ⟨hq, hN, _⟩ := q_bd h h2
  obtain ⟨cs, K, hc, hf⟩ := R
  exact survival_p g 0 _ _ _ m x (fun k hk => by rw [Nat.zero_add]; exact (K.at k).trans (hf k hk)) hq (by omega) (Nat.le_refl _)
theorem Survive_any (s : ByteArray) (f : Int) (vr vs : Value) (rs : List Int) (sel : List (List Int)) (en ys n : Int) (w : World) (hs : s.size ≤ 140737488351232) (hr : Rx w vr rs) (hsel : Rr w vs sel) (G : Gw w) : Calls Tryz.prog 22 #[.agg #[.string s, .int .i64 f, vr, vs], .agg #[.int .i64 en, .int .i64 ys], .int .i64 n] w fun e w' => e = .returned (aE (wr (chk s f rs sel) (okL f rs en ys) n) (svn f rs sel en ys n.toNat)) ∧ Below w.heap.size w w' := by
  by_cases hv : wr (chk s f rs sel) (okL f rs en ys) n = 0
  · have C := cf_ok s f vr vs rs sel en ys n w hs hr hsel hv
    rw [hv]
    obtain ⟨h1, h2, h3, _⟩ := wr_0 hv
    obtain ⟨m, rfl⟩ : ∃ m : Nat, n = m := ⟨n.toNat, by omega⟩
    rw [Int.toNat_natCast]
    obtain ⟨hq, hN, _⟩ := q_bd h1 h2
    exact Survive_k s f vr vs en ys m _ _ _ _ _ 0 w C (surv_p s f rs sel en ys h1 h2 m) (fun x v b h => Ratio_s v _ 3200 x h (sv_bd hq (Nat.min_le_right _ _) hN) (by decide) (G.grow b))
  · unfold aE
    rw [if_pos hv]
    exact Survive_e s f vr vs en ys n _ w (bne_0 hv) (cf_bad s f vr vs rs sel en ys n w hs hr hsel hv)
theorem Die_any (s : ByteArray) (f : Int) (vr vs : Value) (rs : List Int) (sel : List (List Int)) (en ys n : Int) (w : World) (hs : s.size ≤ 140737488351232) (hr : Rx w vr rs) (hsel : Rr w vs sel) (G : Gw w) : Calls Tryz.prog 24 #[.agg #[.string s, .int .i64 f, vr, vs], .agg #[.int .i64 en, .int .i64 ys], .int .i64 n] w fun e w' => e = .returned (aE (wr (chk s f rs sel) (okL f rs en ys) n) (svn f rs sel en ys n.toNat - svn f rs sel en ys (n.toNat + 1))) ∧ Below w.heap.size w w' := by
  by_cases hv : wr (chk s f rs sel) (okL f rs en ys) n = 0
  · have C := cf_ok s f vr vs rs sel en ys n w hs hr hsel hv
    rw [hv]
    obtain ⟨h1, h2, h3, h4⟩ := wr_0 hv
    obtain ⟨m, rfl⟩ : ∃ m : Nat, n = m := ⟨n.toNat, by omega⟩
    rw [Int.toNat_natCast]
    obtain ⟨hq, hN, _⟩ := q_bd h1 h2
    have b1 : Bd (svn f rs sel en ys m) 3200 := sv_bd hq (Nat.min_le_right _ _) hN
    have b2 : Bd (svn f rs sel en ys (m + 1)) 3200 := sv_bd hq (Nat.min_le_right _ _) hN
    have b3 := b1.add (Bd.neg b2)
    rw [Rat.sub_eq_add_neg]
    exact Die_k s f vr vs en ys m ((m + 1 : Nat) : Int) _ _ _ _ _ _ _ _ 0 w (by rw [show (m : Int) + 1 = ((m + 1 : Nat) : Int) by omega]; exact wrapI _ (by omega) (by omega)) C
      (surv_p s f rs sel en ys h1 h2 m) (surv_p s f rs sel en ys h1 h2 (m + 1)) (fun x v h => fa_of (Negated_p v _ x h))
      (fun x v1 v2 h h' => fa_of (Plus_p v1 v2 _ _ 60 60 x h h' (Bd.ps b1 (by decide)) (Bd.ps (Bd.neg b2) (by decide)) ⟨Or.inl (by decide), by decide, by decide⟩ (by decide)))
      (fun x v b h => Ratio_s v _ _ x h b3 (by decide) (G.grow b))
  · unfold aE
    rw [if_pos hv]
    exact Die_e s f vr vs en ys n _ w (bne_0 hv) (cf_bad s f vr vs rs sel en ys n w hs hr hsel hv)
end Go.Proofs.YtiaeoknmgidehaaGreatDoor.Ta

namespace Go.Proofs.YtiaeoknmgidehaaGreatDoor.Ta
open Go.RowKit Ip
open Go.Proofs.YtiaeoknmgidehaaGreatDoor.Mo (Qf qf_of sv al Out_s QSub_q wrt)

theorem svn_0 {s : ByteArray} {f : Int} {rs : List Int} {sel : List (List Int)} {en ys : Int} (h : chk s f rs sel = 0) (h2 : okL f rs en ys = true) {n : Nat} (hn : lft f rs en ys ≤ n) : svn f rs sel en ys n = ((0 : Int) : Rat) := by
  unfold svn
  rw [Nat.min_eq_right hn]
  exact sv_end (q_bd h h2).2.2
theorem ROf_any (s : ByteArray) (f : Int) (vr vs : Value) (rs : List Int) (sel : List (List Int)) (en ys : Int) (w : World) (hr : Rx w vr rs) (h : chk s f rs sel = 0) : Calls Tryz.prog 86 #[.agg #[.string s, .int .i64 f, vr, vs], .agg #[.int .i64 en, .int .i64 ys]] w fun e w' => e = .returned (.bool (okL f rs en ys)) ∧ Below w.heap.size w w' := by
  obtain ⟨_, ⟨ar, cr, rfl, _⟩, hL⟩ := hr
  obtain ⟨_, f1, _, _⟩ := of_chk_0 h
  have La := fun W => RLast_any s f ar rs.length cr vs W f1.1 f1.2.1 hL
  unfold okL
  by_cases g1 : 0 ≤ ys
  · by_cases g2 : f ≤ en
    · by_cases g3 : en ≤ f + (rs.length : Int) - 1
      · rw [decide_eq_decide.2 (show (0 ≤ ys ∧ f ≤ en ∧ en ≤ f + (rs.length : Int) - 1 ∧ ys ≤ f + (rs.length : Int) - 1 - en) ↔ ys ≤ f + (rs.length : Int) - 1 - en from ⟨fun h => h.2.2.2, fun h => ⟨g1, g2, g3, h⟩⟩)]
        exact Of_full s f en ys _ ar rs.length cr vs w _ _ g1 g2 g3 (Mo.wrapI _ (by omega) (by omega)) rfl La
      · rw [decide_eq_false (fun h => g3 h.2.2.1)]
        exact Of_no3 s f en ys _ ar rs.length cr vs w (decide_eq_true g1) (decide_eq_true g2) (decide_eq_false g3) La
    · rw [decide_eq_false (fun h => g2 h.2.1)]
      exact Of_no2 s f en ys ar rs.length cr vs w (decide_eq_true g1) (decide_eq_false g2)
  · rw [decide_eq_false (fun h => g1 h.1)]
    exact Of_no1 s f en ys ar rs.length cr vs w (decide_eq_false g1)
theorem wrong_any (s : ByteArray) (f : Int) (vr vs : Value) (rs : List Int) (sel : List (List Int)) (en ys n : Int) (w : World) (hs : s.size ≤ 140737488351232) (hr : Rx w vr rs) (hsel : Rr w vs sel) : Calls Tryz.prog 55 #[.agg #[.string s, .int .i64 f, vr, vs], .agg #[.int .i64 en, .int .i64 ys], .int .i64 n] w fun e w' => e = .returned (.int .i64 (wr (chk s f rs sel) (okL f rs en ys) n)) ∧ Below w.heap.size w w' := by
  have C := fun x (b : Below w.heap.size w x) => RCheck_any s f vr vs rs sel x hs (hr.grow b) (hsel.grow b)
  by_cases c1 : chk s f rs sel = 0
  · have O := fun x (b : Below w.heap.size w x) => ROf_any s f vr vs rs sel en ys x (hr.grow b) c1
    simp only [c1] at C
    rw [c1]
    cases c2 : okL f rs en ys
    · simp only [c2] at O
      rw [wr_8]
      exact wrong_o s f vr vs en ys n w C O
    · simp only [c2] at O
      by_cases h3 : 0 ≤ n ∧ n ≤ 130
      · rw [wr_k h3]
        exact wrong_n s f vr vs en ys n 0 w (Or.inl ⟨h3.1, h3.2, rfl⟩) C O
      · rw [wr_1 h3]
        exact wrong_n s f vr vs en ys n 1 w (Or.inr (by omega)) C O
  · rw [wr_c c1]
    exact wrong_e s f vr vs en ys n _ w (bne_0 c1) C
theorem RRate_any (s : ByteArray) (f : Int) (vr vs : Value) (rs : List Int) (sel : List (List Int)) (en ys n : Int) (w : World) (hs : s.size ≤ 140737488351232) (hr : Rx w vr rs) (hsel : Rr w vs sel) : Calls Tryz.prog 21 #[.agg #[.string s, .int .i64 f, vr, vs], .agg #[.int .i64 en, .int .i64 ys], .int .i64 n] w fun e w' => e = .returned (aR (wr (chk s f rs sel) (okL f rs en ys) n) f rs sel en ys n) ∧ Below w.heap.size w w' := by
  have C := fun x (b : Below w.heap.size w x) => wrong_any s f vr vs rs sel en ys n x hs (hr.grow b) (hsel.grow b)
  by_cases hv : wr (chk s f rs sel) (okL f rs en ys) n = 0
  · simp only [hv] at C
    rw [hv]
    unfold aR
    rw [if_neg (by decide)]
    obtain ⟨c1, c2, h3, h4⟩ := wr_0 hv
    obtain ⟨m, rfl⟩ : ∃ m : Nat, n = m := ⟨n.toNat, by omega⟩
    by_cases h : (lft f rs en ys : Int) ≤ m
    · rw [if_pos h]
      exact RRate_none s f vr vs en ys m 0 w C (fun x b => RateIn_none s f vr vs rs sel en ys x (hr.grow b) (hsel.grow b) c1 c2 _ (lft_ok c2).1 m (by omega) (by omega))
    · rw [if_neg h, Int.toNat_natCast]
      exact RRate_k s f vr vs en ys m _ w C (fun x b => RateIn_some s f vr vs rs sel en ys x (hr.grow b) (hsel.grow b) c1 c2 _ (lft_ok c2).1 m (by omega))
  · unfold aR
    rw [if_pos hv]
    exact RRate_e s f vr vs en ys n _ w (bne_0 hv) C
theorem RS_q (s : ByteArray) (f : Int) (vr vs : Value) (rs : List Int) (sel : List (List Int)) (en ys : Int) (w : World) (hr : Rx w vr rs) (hsel : Rr w vs sel) (c1 : chk s f rs sel = 0) (c2 : okL f rs en ys = true) (m : Nat) (x : World) (b : Below w.heap.size w x) : Calls Tryz.prog 58 #[.agg #[.string s, .int .i64 f, vr, vs], .agg #[.int .i64 en, .int .i64 ys], .int .i64 (m : Int)] x (Qf (svn f rs sel en ys m) x) := by
  obtain ⟨hq, hN, _⟩ := q_bd c1 c2
  obtain ⟨le, _⟩ := lft_ok c2
  have hr0 := hr.grow b
  have hs0 := hsel.grow b
  have hr' := hr
  obtain ⟨_, ⟨ar, cr, rfl, _⟩, hL⟩ := hr'
  obtain ⟨_, f1, _, _⟩ := of_chk_0 c1
  obtain ⟨o1, o2, o3, o4⟩ := of_decide_eq_true c2
  have LE : ∀ y, Below x.heap.size x y → Calls Tryz.prog 91 #[.agg #[.string s, .int .i64 f, .slice ar rs.length cr, vs], .agg #[.int .i64 en, .int .i64 ys]] y fun e w' => e = .returned (.int .i64 (lft f rs en ys : Int)) ∧ Below y.heap.size y w' := fun y _ =>
    Left_r s f en ys (f + (rs.length : Int) - 1) ar rs.length cr vs y _ _ _ (Mo.wrapI _ (by omega) (by omega)) (Mo.wrapI _ (by omega) (by omega)) (by rw [show f + (rs.length : Int) - 1 - en - ys + 1 = (lft f rs en ys : Int) by omega]; exact Mo.wrapI _ (by omega) (by omega)) (fun W => RLast_any s f ar rs.length cr vs W f1.1 f1.2.1 hL)
  by_cases h : m ≤ lft f rs en ys
  · have := S_some s f en ys ar rs.length cr vs (lft f rs en ys) (rt f rs sel en ys) x m h (by omega) hq LE (fun y k hk bb => RateIn_some s f _ vs rs sel en ys y (hr0.grow bb) (hs0.grow bb) c1 c2 _ le k hk)
    unfold svn
    rw [Nat.min_eq_left h]
    exact this
  · rw [svn_0 c1 c2 (by omega)]
    exact S_none s f en ys ar rs.length cr vs (lft f rs en ys) x m (by omega) LE
theorem RSurvive_any (s : ByteArray) (f : Int) (vr vs : Value) (rs : List Int) (sel : List (List Int)) (en ys n : Int) (w : World) (hs : s.size ≤ 140737488351232) (hr : Rx w vr rs) (hsel : Rr w vs sel) : Calls Tryz.prog 23 #[.agg #[.string s, .int .i64 f, vr, vs], .agg #[.int .i64 en, .int .i64 ys], .int .i64 n] w fun e w' => e = .returned (aE (wr (chk s f rs sel) (okL f rs en ys) n) (svn f rs sel en ys n.toNat)) ∧ Below w.heap.size w w' := by
  have C := fun x (b : Below w.heap.size w x) => wrong_any s f vr vs rs sel en ys n x hs (hr.grow b) (hsel.grow b)
  by_cases hv : wr (chk s f rs sel) (okL f rs en ys) n = 0
  · simp only [hv] at C
    rw [hv]
    obtain ⟨c1, c2, h3, h4⟩ := wr_0 hv
    obtain ⟨m, rfl⟩ : ∃ m : Nat, n = m := ⟨n.toNat, by omega⟩
    obtain ⟨hq, hN, _⟩ := q_bd c1 c2
    rw [Int.toNat_natCast]
    exact RSurvive_k s f vr vs en ys m _ _ _ 0 w C (fun x b => RS_q s f vr vs rs sel en ys w hr hsel c1 c2 m x b) (fun x v h => Out_s v _ 3200 x h (sv_bd hq (Nat.min_le_right _ _) hN) (by decide))
  · unfold aE
    rw [if_pos hv]
    exact RSurvive_e s f vr vs en ys n _ w (bne_0 hv) C
theorem RDie_any (s : ByteArray) (f : Int) (vr vs : Value) (rs : List Int) (sel : List (List Int)) (en ys n : Int) (w : World) (hs : s.size ≤ 140737488351232) (hr : Rx w vr rs) (hsel : Rr w vs sel) : Calls Tryz.prog 25 #[.agg #[.string s, .int .i64 f, vr, vs], .agg #[.int .i64 en, .int .i64 ys], .int .i64 n] w fun e w' => e = .returned (aE (wr (chk s f rs sel) (okL f rs en ys) n) (svn f rs sel en ys n.toNat - svn f rs sel en ys (n.toNat + 1))) ∧ Below w.heap.size w w' := by
  have C := fun x (b : Below w.heap.size w x) => wrong_any s f vr vs rs sel en ys n x hs (hr.grow b) (hsel.grow b)
  by_cases hv : wr (chk s f rs sel) (okL f rs en ys) n = 0
  · simp only [hv] at C
    rw [hv]
    obtain ⟨c1, c2, h3, h4⟩ := wr_0 hv
    obtain ⟨m, rfl⟩ : ∃ m : Nat, n = m := ⟨n.toNat, by omega⟩
    obtain ⟨hq, hN, _⟩ := q_bd c1 c2
    rw [Int.toNat_natCast]
    have b1 : Bd (svn f rs sel en ys m) 3200 := sv_bd hq (Nat.min_le_right _ _) hN
    have b2 : Bd (svn f rs sel en ys (m + 1)) 3200 := sv_bd hq (Nat.min_le_right _ _) hN
    have b3 := b1.add (Bd.neg b2)
    rw [← Rat.sub_eq_add_neg] at b3
    exact RDie_k s f vr vs en ys m ((m + 1 : Nat) : Int) _ _ _ _ _ 0 w (by rw [show (m : Int) + 1 = ((m + 1 : Nat) : Int) by omega]; exact Mo.wrapI _ (by omega) (by omega)) C
      (fun x b => RS_q s f vr vs rs sel en ys w hr hsel c1 c2 m x b) (fun x b => RS_q s f vr vs rs sel en ys w hr hsel c1 c2 (m + 1) x b)
      (fun x v1 v2 h h' => QSub_q v1 v2 _ _ 200 x h h' (Mo.Bd.qs b1 (by decide)) (Mo.Bd.qs b2 (by decide)) (by decide)) (fun x v h => Out_s v _ _ x h b3 (by decide))
  · unfold aE
    rw [if_pos hv]
    exact RDie_e s f vr vs en ys n _ w (bne_0 hv) C
end Go.Proofs.YtiaeoknmgidehaaGreatDoor.Ta

namespace Go.Proofs.YtiaeoknmgidehaaGreatDoor.Ta
open Go.RowKit

set_option maxRecDepth 100000 in
set_option maxHeartbeats 3200000 in
theorem lives_walk (s : ByteArray) (f : Int) (vr vs : Value) (en ys n q e0 e1 e2 : Int) (s1 t1 s2 t2 : ByteArray) (w : World) (C1 : ∀ x, Below w.heap.size w x → Calls Tryz.prog 20 #[.agg #[.string s, .int .i64 f, vr, vs], .agg #[.int .i64 en, .int .i64 ys], .int .i64 n] x fun e w' => e = .returned (.tuple #[.int .i64 q, .int .i64 e0]) ∧ Below x.heap.size x w') (C2 : ∀ x, Below w.heap.size w x → Calls Tryz.prog 21 #[.agg #[.string s, .int .i64 f, vr, vs], .agg #[.int .i64 en, .int .i64 ys], .int .i64 n] x fun e w' => e = .returned (.tuple #[.int .i64 q, .int .i64 e0]) ∧ Below x.heap.size x w') (C3 : ∀ x, Below w.heap.size w x → Calls Tryz.prog 22 #[.agg #[.string s, .int .i64 f, vr, vs], .agg #[.int .i64 en, .int .i64 ys], .int .i64 n] x fun e w' => e = .returned (.tuple #[.agg #[.string s1, .string t1], .int .i64 e1]) ∧ Below x.heap.size x w') (C4 : ∀ x, Below w.heap.size w x → Calls Tryz.prog 23 #[.agg #[.string s, .int .i64 f, vr, vs], .agg #[.int .i64 en, .int .i64 ys], .int .i64 n] x fun e w' => e = .returned (.tuple #[.agg #[.string s1, .string t1], .int .i64 e1]) ∧ Below x.heap.size x w') (C5 : ∀ x, Below w.heap.size w x → Calls Tryz.prog 24 #[.agg #[.string s, .int .i64 f, vr, vs], .agg #[.int .i64 en, .int .i64 ys], .int .i64 n] x fun e w' => e = .returned (.tuple #[.agg #[.string s2, .string t2], .int .i64 e2]) ∧ Below x.heap.size x w') (C6 : ∀ x, Below w.heap.size w x → Calls Tryz.prog 25 #[.agg #[.string s, .int .i64 f, vr, vs], .agg #[.int .i64 en, .int .i64 ys], .int .i64 n] x fun e w' => e = .returned (.tuple #[.agg #[.string s2, .string t2], .int .i64 e2]) ∧ Below x.heap.size x w') :
    Calls Tryz.prog 6 #[.agg #[.string s, .int .i64 f, vr, vs], .agg #[.int .i64 en, .int .i64 ys], .int .i64 n] w fun e w' => e = .returned (.bool true) ∧ Below w.heap.size w w' := by
  have KT := (Blk.new w #[.string s, .int .i64 f, vr, vs] 44).alloc (.cells #[.int .i64 en, .int .i64 ys] 46)
  have KL := Blk.new (w.alloc (.cells #[.string s, .int .i64 f, vr, vs] 44)) #[.int .i64 en, .int .i64 ys] 46
  simp only [World.size_alloc] at KL
  have pr : Below w.heap.size w ((w.alloc (.cells #[.string s, .int .i64 f, vr, vs] 44)).alloc (.cells #[.int .i64 en, .int .i64 ys] 46)) := ((Below.refl _ _).alloc (Nat.le_refl _) _).alloc (by simp) _
  go_enter Tryz.func6, Tryz.ntmps6
  go_wp2_with (first
    | (go_at_call 25; (have z6 := p5); (refine (C6 _ p5).mono ?_); (rintro e w6 ⟨rfl, b6⟩); (have al6 := (Below.refl w6.heap.size w6).alloc (Nat.le_refl _) (.cells #[.string s2, .string t2] 26)); (have V6 := Blk.new w6 #[.string s2, .string t2] 26); (have bb6 := Mo.bel' b6 al6); (have p6 := Mo.bel' p5 bb6); (have KT6 := KT5.below bb6 KT5.lt); (have KL6 := KL5.below bb6 KL5.lt); (have V3_6 := V3_5.below bb6 V3_5.lt); (have V4_6 := V4_5.below bb6 V4_5.lt); (have V5_6 := V5.below bb6 V5.lt); (have c60 := KT6.at 0); (have c61 := KT6.at 1); (have c62 := KT6.at 2); (have c63 := KT6.at 3); (have c64 := KL6.at 0); (have c65 := KL6.at 1); (simp at c60 c61 c62 c63 c64 c65); (have q0 := V3_6.at 0); (have q1 := V3_6.at 1); (simp at q0 q1); (have q2 := V4_6.at 0); (have q3 := V4_6.at 1); (simp at q2 q3); (have q4 := V5_6.at 0); (have q5 := V5_6.at 1); (simp at q4 q5); (have q6 := V6.at 0); (have q7 := V6.at 1); (simp at q6 q7))
    | (go_at_call 24; (have z5 := p4); (refine (C5 _ p4).mono ?_); (rintro e w5 ⟨rfl, b5⟩); (have al5 := (Below.refl w5.heap.size w5).alloc (Nat.le_refl _) (.cells #[.string s2, .string t2] 26)); (have V5 := Blk.new w5 #[.string s2, .string t2] 26); (have bb5 := Mo.bel' b5 al5); (have p5 := Mo.bel' p4 bb5); (have KT5 := KT4.below bb5 KT4.lt); (have KL5 := KL4.below bb5 KL4.lt); (have V3_5 := V3_4.below bb5 V3_4.lt); (have V4_5 := V4.below bb5 V4.lt); (have c50 := KT5.at 0); (have c51 := KT5.at 1); (have c52 := KT5.at 2); (have c53 := KT5.at 3); (have c54 := KL5.at 0); (have c55 := KL5.at 1); (simp at c50 c51 c52 c53 c54 c55))
    | (go_at_call 23; (have z4 := p3); (refine (C4 _ p3).mono ?_); (rintro e w4 ⟨rfl, b4⟩); (have al4 := (Below.refl w4.heap.size w4).alloc (Nat.le_refl _) (.cells #[.string s1, .string t1] 26)); (have V4 := Blk.new w4 #[.string s1, .string t1] 26); (have bb4 := Mo.bel' b4 al4); (have p4 := Mo.bel' p3 bb4); (have KT4 := KT3.below bb4 KT3.lt); (have KL4 := KL3.below bb4 KL3.lt); (have V3_4 := V3.below bb4 V3.lt); (have c40 := KT4.at 0); (have c41 := KT4.at 1); (have c42 := KT4.at 2); (have c43 := KT4.at 3); (have c44 := KL4.at 0); (have c45 := KL4.at 1); (simp at c40 c41 c42 c43 c44 c45))
    | (go_at_call 22; (have z3 := p2); (refine (C3 _ p2).mono ?_); (rintro e w3 ⟨rfl, b3⟩); (have al3 := (Below.refl w3.heap.size w3).alloc (Nat.le_refl _) (.cells #[.string s1, .string t1] 26)); (have V3 := Blk.new w3 #[.string s1, .string t1] 26); (have bb3 := Mo.bel' b3 al3); (have p3 := Mo.bel' p2 bb3); (have KT3 := KT2.below bb3 KT2.lt); (have KL3 := KL2.below bb3 KL2.lt); (have c30 := KT3.at 0); (have c31 := KT3.at 1); (have c32 := KT3.at 2); (have c33 := KT3.at 3); (have c34 := KL3.at 0); (have c35 := KL3.at 1); (simp at c30 c31 c32 c33 c34 c35))
    | (go_at_call 21; (have z2 := p1); (refine (C2 _ p1).mono ?_); (rintro e w2 ⟨rfl, b2⟩); (have bb2 := b2); (have p2 := Mo.bel' p1 bb2); (have KT2 := KT1.below bb2 KT1.lt); (have KL2 := KL1.below bb2 KL1.lt); (have c20 := KT2.at 0); (have c21 := KT2.at 1); (have c22 := KT2.at 2); (have c23 := KT2.at 3); (have c24 := KL2.at 0); (have c25 := KL2.at 1); (simp at c20 c21 c22 c23 c24 c25))
    | (go_at_call 20; (refine (C1 _ pr).mono ?_); (rintro e w1 ⟨rfl, b1⟩); (have bb1 := b1); (have p1 := Mo.bel' pr bb1); (have KT1 := KT.below bb1 KT.lt); (have KL1 := KL.below bb1 KL.lt); (have c10 := KT1.at 0); (have c11 := KT1.at 1); (have c12 := KT1.at 2); (have c13 := KT1.at 3); (have c14 := KL1.at 0); (have c15 := KL1.at 1); (simp at c10 c11 c12 c13 c14 c15))
    | fail)
  go_ret
  exact ⟨rfl, p6⟩
/-- The law. -/
theorem lives_law (s : ByteArray) (f : Int) (vr vs : Value) (rs : List Int) (sel : List (List Int)) (en ys n : Int) (w : World) (hs : s.size ≤ 140737488351232) (hr : Rx w vr rs) (hsel : Rr w vs sel) (G : Mo.Gw w) :
    Calls Tryz.prog 6 #[.agg #[.string s, .int .i64 f, vr, vs], .agg #[.int .i64 en, .int .i64 ys], .int .i64 n] w fun e w' => e = .returned (.bool true) ∧ Below w.heap.size w w' := by
  obtain ⟨q, e0, f0⟩ := aR_form (wr (chk s f rs sel) (okL f rs en ys) n) f rs sel en ys n
  obtain ⟨s1, t1, e1, f1⟩ := aE_form (wr (chk s f rs sel) (okL f rs en ys) n) (svn f rs sel en ys n.toNat)
  obtain ⟨s2, t2, e2, f2⟩ := aE_form (wr (chk s f rs sel) (okL f rs en ys) n) (svn f rs sel en ys n.toNat - svn f rs sel en ys (n.toNat + 1))
  have c1 := fun x (b : Below w.heap.size w x) => Rate_any s f vr vs rs sel en ys n x hs (hr.grow b) (hsel.grow b)
  have c2 := fun x (b : Below w.heap.size w x) => RRate_any s f vr vs rs sel en ys n x hs (hr.grow b) (hsel.grow b)
  have c3 := fun x (b : Below w.heap.size w x) => Survive_any s f vr vs rs sel en ys n x hs (hr.grow b) (hsel.grow b) (G.grow b)
  have c4 := fun x (b : Below w.heap.size w x) => RSurvive_any s f vr vs rs sel en ys n x hs (hr.grow b) (hsel.grow b)
  have c5 := fun x (b : Below w.heap.size w x) => Die_any s f vr vs rs sel en ys n x hs (hr.grow b) (hsel.grow b) (G.grow b)
  have c6 := fun x (b : Below w.heap.size w x) => RDie_any s f vr vs rs sel en ys n x hs (hr.grow b) (hsel.grow b)
  simp only [f0] at c1 c2
  simp only [f1] at c3 c4
  simp only [f2] at c5 c6
  exact lives_walk s f vr vs en ys n q e0 e1 e2 s1 t1 s2 t2 w c1 c2 c3 c4 c5 c6
end Go.Proofs.YtiaeoknmgidehaaGreatDoor.Ta

namespace Go.Proofs.YtiaeoknmgidehaaGreatDoor.Dy
open Mo
theorem gPow : Tryz.prog.globalNamed "internal/strconv.uint64pow10" = some 2 := by kernel_rfl
theorem gw_of {w : World} (h : Go.Lib.TabIs Tryz.prog w "internal/strconv.uint64pow10" .u64 Go.Lib.pow10Tab) : Gw w := fun _ b => Go.Joins.var_stays gPow h b (Nat.le_refl _)
end Go.Proofs.YtiaeoknmgidehaaGreatDoor.Dy
