import Derived.Test.YtfalncbcomlelaaGreatDoorPart47
import Derived.Test.YtfalncbcomlelaaGreatDoorPart48
import Derived.Test.YtfalncbcomlelaaGreatDoorPart19
import Derived.Test.YtfalncbcomlelaaGreatDoorPart40
import Derived.Lib.SmallJoins

namespace Go.Proofs.YtfalncbcomlelaaGreatDoor.Ta
open Go.RowKit Ip
open Go.Proofs.YtfalncbcomlelaaGreatDoor.Mo (al sv al_bd al_pw Nn Fa PF fa_of Pow_n Lowest_p Ratio_s Out_s Gw Qf wrapI Sv survivors_n)

/-- What is wrong: as wr, and of the number of years. -/
def wx (e yr : Int) : Int := if e ≠ 0 then e else if 0 ≤ yr ∧ yr ≤ 130 then 0 else 1
theorem wx_e {e yr : Int} (h : e ≠ 0) : wx e yr = e := by unfold wx; rw [if_pos h]
theorem wx_1 {yr : Int} (h : ¬ (0 ≤ yr ∧ yr ≤ 130)) : wx 0 yr = 1 := by unfold wx; rw [if_neg (by decide), if_neg h]
/-- How many whole years. -/
def exq (f : Int) (rs : List Int) (sel : List (List Int)) (en ys : Int) (fr yr : Nat) : Rat := er (rt f rs sel en ys) fr (min (fr + yr) (lft f rs en ys))
theorem least {P : Nat → Prop} : ∀ {N : Nat}, ¬ P N → ∃ n, n ≤ N ∧ (∀ k, k < n → P k) ∧ ¬ P n
  | 0, h => ⟨0, Nat.le_refl _, fun k hk => absurd hk (by omega), h⟩
  | N + 1, h => by
    by_cases c : P N
    · by_cases d : ∀ k, k < N → P k
      · refine ⟨N + 1, Nat.le_refl _, fun k hk => ?_, h⟩
        by_cases e : k = N
        · rw [e]; exact c
        · exact d k (by omega)
      · obtain ⟨m, hm⟩ := Classical.not_forall.1 d
        obtain ⟨lt, hm⟩ := Classical.not_imp.1 hm
        obtain ⟨n, h1, h2, h3⟩ := least (N := m) hm
        exact ⟨n, by omega, h2, h3⟩
    · obtain ⟨n, h1, h2, h3⟩ := least c
      exact ⟨n, by omega, h2, h3⟩
theorem half_sv (q : Nat → Int) (k : Nat) : (1 : Rat) / 2 < sv q k ↔ ((10000000 ^ k : Nat) : Int) < al q k * 2 := by
  have e : (1 : Rat) / 2 = mkRat 1 2 := by decide +kernel
  rw [e]
  unfold sv
  rw [L.lt_mk 1 (al q k) (by decide) (Nat.pow_pos (by decide)), Int.one_mul]
  rfl
theorem er_max (q : Nat → Int) (f m : Nat) : er q f (max f m) = er q f m := by
  by_cases h : m ≤ f
  · rw [er_0 h, Nat.max_eq_left h, er_0 (Nat.le_refl _)]
  · rw [Nat.max_eq_right (by omega)]
theorem S1_of {N : Nat} (q : Nat → Int) (hq : ∀ k, k < N → 0 ≤ q k ∧ q k ≤ 10000000) (hN : N ≤ 131) (m : Nat) (hm : m ≤ N) (x : World) (g : Nat) (R : Rc x g N N q) : Calls Tryz.prog 49 #[.slice (some ⟨g, 0, none⟩) m N] x fun e w' => ∃ g2, e = .returned (.slice (some ⟨g2, 0, none⟩) (m + 1) (m + 1)) ∧ x.heap.size ≤ g2 ∧ Sv w' g2 (m + 1) m q ∧ Below x.heap.size x w' := by
  obtain ⟨cs, K, hs, hf⟩ := R
  exact survivors_n (some ⟨g, 0, none⟩) m N q x (fun _ => ⟨g, 0, rfl, fun k hk => by rw [Nat.zero_add]; exact (K.at k).trans (hf k (by omega))⟩) (fun k hk => hq k (by omega)) (by omega)
theorem one_pw : (1 : Int) < Tn.pw 60 := lt_64 (a := 1) (B := 1) (by decide) (by decide)
theorem co_bad (s : ByteArray) (f : Int) (vr vs : Value) (rs : List Int) (sel : List (List Int)) (en ys : Int) (w : World) (hs : s.size ≤ 140737488351232) (hr : Rx w vr rs) (hsel : Rr w vs sel) (hv : wr (chk s f rs sel) (okL f rs en ys) 0 ≠ 0) (x : World) (b : Below w.heap.size w x) : Calls Tryz.prog 47 #[.agg #[.string s, .int .i64 f, vr, vs], .agg #[.int .i64 en, .int .i64 ys]] x fun e w' => e = .returned (.tuple #[.slice none 0 0, .int .i64 (wr (chk s f rs sel) (okL f rs en ys) 0)]) ∧ Below x.heap.size x w' := by
  by_cases c1 : chk s f rs sel = 0
  · cases c2 : okL f rs en ys
    · rw [c1, wr_8]
      exact coming_no s f vr vs rs sel en ys x hs (hr.grow b) (hsel.grow b) c1 c2
    · rw [c1, c2] at hv
      exact absurd (wr_k ⟨by decide, by decide⟩) hv
  · rw [wr_c c1]
    exact coming_bad s f vr vs rs sel en ys x hs (hr.grow b) (hsel.grow b) c1
theorem co_ok (s : ByteArray) (f : Int) (vr vs : Value) (rs : List Int) (sel : List (List Int)) (en ys : Int) (w : World) (hs : s.size ≤ 140737488351232) (hr : Rx w vr rs) (hsel : Rr w vs sel) (c1 : chk s f rs sel = 0) (c2 : okL f rs en ys = true) (x : World) (b : Below w.heap.size w x) : Calls Tryz.prog 47 #[.agg #[.string s, .int .i64 f, vr, vs], .agg #[.int .i64 en, .int .i64 ys]] x fun e w' => ∃ g, e = .returned (.tuple #[.slice (some ⟨g, 0, none⟩) (lft f rs en ys) (lft f rs en ys), .int .i64 0]) ∧ Rc w' g (lft f rs en ys) (lft f rs en ys) (rt f rs sel en ys) ∧ Below x.heap.size x w' := by
  refine (coming_ok s f vr vs rs sel en ys x hs (hr.grow b) (hsel.grow b) c1 c2 (lft f rs en ys) (lft_ok c2).1).mono ?_
  rintro e w' ⟨g, rfl, _, R, bb⟩
  exact ⟨g, rfl, R, bb⟩
theorem wr_z {c : Int} {ok : Bool} (h : wr c ok 0 = 0) : c = 0 ∧ ok = true := ⟨(wr_0 h).1, (wr_0 h).2.1⟩
theorem wr_same {c : Int} {ok : Bool} (n : Int) (h : wr c ok 0 ≠ 0) : wr c ok n = wr c ok 0 := by
  by_cases c1 : c = 0
  · cases ok
    · rw [c1, wr_8, wr_8]
    · rw [c1] at h; exact absurd (wr_k ⟨by decide, by decide⟩) h
  · rw [wr_c c1, wr_c c1]
theorem Expect_any (s : ByteArray) (f : Int) (vr vs : Value) (rs : List Int) (sel : List (List Int)) (en ys fr yr : Int) (w : World) (hs : s.size ≤ 140737488351232) (hr : Rx w vr rs) (hsel : Rr w vs sel) (G : Gw w) : Calls Tryz.prog 19 #[.agg #[.string s, .int .i64 f, vr, vs], .agg #[.int .i64 en, .int .i64 ys], .int .i64 fr, .int .i64 yr] w fun e w' => e = .returned (aE (wx (wr (chk s f rs sel) (okL f rs en ys) fr) yr) (exq f rs sel en ys fr.toNat yr.toNat)) ∧ Below w.heap.size w w' := by
  by_cases hv : wr (chk s f rs sel) (okL f rs en ys) 0 = 0
  · obtain ⟨c1, c2⟩ := wr_z hv
    have CO := co_ok s f vr vs rs sel en ys w hs hr hsel c1 c2
    by_cases h3 : 0 ≤ fr ∧ fr ≤ 130
    · by_cases h4 : 0 ≤ yr ∧ yr ≤ 130
      · rw [c1, c2, wr_k h3]
        obtain ⟨a, rfl⟩ : ∃ a : Nat, fr = a := ⟨fr.toNat, by omega⟩
        obtain ⟨b, rfl⟩ : ∃ b : Nat, yr = b := ⟨yr.toNat, by omega⟩
        rw [Int.toNat_natCast, Int.toNat_natCast, show wx 0 (b : Int) = 0 by unfold wx; rw [if_neg (by decide), if_pos h4]]
        obtain ⟨hq, hN, _⟩ := q_bd c1 c2
        obtain ⟨m, hm⟩ : ∃ m, min (a + b) (lft f rs en ys) = m := ⟨_, rfl⟩
        have mN : m ≤ lft f rs en ys := by omega
        unfold exq
        rw [hm]
        have dp : ((10000000 ^ m : Nat) : Int) < Tn.pw 60 := lt_64 (lt_pow2 (m := 24) (by decide) m) (by omega)
        have e0 := (es_bd (f := a) hq m mN).1
        have ea : ((es (rt f rs sel en ys) a m).toNat : Int) = es (rt f rs sel en ys) a m := Int.toNat_of_nonneg e0
        refine Expect_k s f vr vs en ys a b (lft f rs en ys) m (m + 1) (rt f rs sel en ys) ((10000000 ^ m : Nat) : Int) (er (rt f rs sel en ys) a m) _ _ 0 w (by omega) (by omega) hN hm rfl hq CO (fun x g R => S1_of _ hq hN m mN x g R) (fun x p l c h => Pow_n p l c 10000000 m x h (by omega) (K := 60) one_pw (by decide) dp) (fun x p l c p' l' c' h h' => ?_) (fun x v b h => Ratio_s v _ 3200 x h (er_bd hq hN mN) (by decide) (G.grow b))
        have := Lowest_p p p' l c l' c' (es (rt f rs sel en ys) a m).toNat (10000000 ^ m) 60 x (by rw [ea]; exact h) h' (by have := Nat.pow_pos (n := m) (show 0 < 10000000 by decide); omega) (by rw [ea]; exact es_pw hq hN mN) dp (by decide)
        rw [ea] at this
        exact fa_of this
      · rw [c1, c2, wr_k h3, wx_1 h4]
        exact Expect_r2 s f vr vs en ys fr yr _ _ w (by rw [← Bool.decide_and]; exact decide_eq_true h3) (by rw [← Bool.decide_and]; exact decide_eq_false h4) CO
    · rw [c1, c2, wr_1 h3, wx_e (by decide)]
      exact Expect_r1 s f vr vs en ys fr yr _ _ w (by rw [← Bool.decide_and]; exact decide_eq_false h3) CO
  · rw [wr_same fr hv, wx_e hv]
    unfold aE
    rw [if_pos hv]
    exact Expect_e s f vr vs en ys fr yr _ w (bne_0 hv) (co_bad s f vr vs rs sel en ys w hs hr hsel hv)
theorem Left_any {s : ByteArray} {f : Int} {vr vs : Value} {rs : List Int} {sel : List (List Int)} {en ys : Int} {w : World} (hr : Rx w vr rs) (c1 : chk s f rs sel = 0) (c2 : okL f rs en ys = true) (y : World) : Calls Tryz.prog 57 #[.agg #[.string s, .int .i64 f, vr, vs], .agg #[.int .i64 en, .int .i64 ys]] y fun e w' => e = .returned (.int .i64 (lft f rs en ys : Int)) ∧ Below y.heap.size y w' := by
  obtain ⟨le, _⟩ := lft_ok c2
  obtain ⟨_, ⟨ar, cr, rfl, _⟩, hL⟩ := hr
  obtain ⟨_, f1, _, _⟩ := of_chk_0 c1
  obtain ⟨o1, o2, o3, o4⟩ := of_decide_eq_true c2
  exact Left_r s f en ys (f + (rs.length : Int) - 1) ar rs.length cr vs y _ _ _ (wrapI _ (by omega) (by omega)) (wrapI _ (by omega) (by omega)) (by rw [show f + (rs.length : Int) - 1 - en - ys + 1 = (lft f rs en ys : Int) by omega]; exact wrapI _ (by omega) (by omega)) (fun W => RLast_any s f ar rs.length cr vs W f1.1 f1.2.1 hL)
theorem S_le (s : ByteArray) (f : Int) (vr vs : Value) (rs : List Int) (sel : List (List Int)) (en ys : Int) (w : World) (hr : Rx w vr rs) (hsel : Rr w vs sel) (c1 : chk s f rs sel = 0) (c2 : okL f rs en ys = true) (x : World) (n : Nat) (hn : n ≤ lft f rs en ys) (b : Below w.heap.size w x) : Calls Tryz.prog 58 #[.agg #[.string s, .int .i64 f, vr, vs], .agg #[.int .i64 en, .int .i64 ys], .int .i64 (n : Int)] x (Qf (sv (rt f rs sel en ys) n) x) := by
  have := RS_q s f vr vs rs sel en ys w hr hsel c1 c2 n x b
  unfold svn at this
  rw [Nat.min_eq_left hn] at this
  exact this
theorem RExpect_any (s : ByteArray) (f : Int) (vr vs : Value) (rs : List Int) (sel : List (List Int)) (en ys fr yr : Int) (w : World) (hs : s.size ≤ 140737488351232) (hr : Rx w vr rs) (hsel : Rr w vs sel) : Calls Tryz.prog 20 #[.agg #[.string s, .int .i64 f, vr, vs], .agg #[.int .i64 en, .int .i64 ys], .int .i64 fr, .int .i64 yr] w fun e w' => e = .returned (aE (wx (wr (chk s f rs sel) (okL f rs en ys) fr) yr) (exq f rs sel en ys fr.toNat yr.toNat)) ∧ Below w.heap.size w w' := by
  have WA := fun x (b : Below w.heap.size w x) => wrong_any s f vr vs rs sel en ys fr x hs (hr.grow b) (hsel.grow b)
  by_cases hv : wr (chk s f rs sel) (okL f rs en ys) fr = 0
  · simp only [hv] at WA
    rw [hv]
    obtain ⟨c1, c2, h3⟩ := wr_0 hv
    by_cases h4 : 0 ≤ yr ∧ yr ≤ 130
    · obtain ⟨a, rfl⟩ : ∃ a : Nat, fr = a := ⟨fr.toNat, by omega⟩
      obtain ⟨b, rfl⟩ : ∃ b : Nat, yr = b := ⟨yr.toNat, by omega⟩
      rw [Int.toNat_natCast, Int.toNat_natCast, show wx 0 (b : Int) = 0 by unfold wx; rw [if_neg (by decide), if_pos h4]]
      obtain ⟨hq, hN, _⟩ := q_bd c1 c2
      obtain ⟨m, hm⟩ : ∃ m, min (a + b) (lft f rs en ys) = m := ⟨_, rfl⟩
      have mN : m ≤ lft f rs en ys := by omega
      unfold exq
      rw [hm]
      refine RExpect_k s f vr vs en ys a b (lft f rs en ys) m (max a m) (rt f rs sel en ys) _ _ 0 w (by omega) (by omega) hN hm rfl hq WA (fun x _ => Left_any hr c1 c2 x) (fun x n hn bb => S_le s f vr vs rs sel en ys w hr hsel c1 c2 x n hn bb) (fun x v h => ?_)
      rw [er_max] at h
      exact Out_s v _ 3200 x h (er_bd hq hN mN) (by decide)
    · rw [wx_1 h4]
      by_cases h5 : yr < 0
      · exact RExpect_r1 s f vr vs en ys fr yr w h5 WA
      · exact RExpect_r2 s f vr vs en ys fr yr w h5 (by omega) WA
  · rw [wx_e hv]
    unfold aE
    rw [if_pos hv]
    exact RExpect_e s f vr vs en ys fr yr _ w (bne_0 hv) (by simpa using hv) WA
/-- Both tell the same year. -/
theorem Probable_both (s : ByteArray) (f : Int) (vr vs : Value) (rs : List Int) (sel : List (List Int)) (en ys : Int) (w : World) (hs : s.size ≤ 140737488351232) (hr : Rx w vr rs) (hsel : Rr w vs sel) : ∃ n c : Int, (∀ x, Below w.heap.size w x → Calls Tryz.prog 21 #[.agg #[.string s, .int .i64 f, vr, vs], .agg #[.int .i64 en, .int .i64 ys]] x fun e w' => e = .returned (.tuple #[.int .i64 n, .int .i64 c]) ∧ Below x.heap.size x w') ∧ (∀ x, Below w.heap.size w x → Calls Tryz.prog 22 #[.agg #[.string s, .int .i64 f, vr, vs], .agg #[.int .i64 en, .int .i64 ys]] x fun e w' => e = .returned (.tuple #[.int .i64 n, .int .i64 c]) ∧ Below x.heap.size x w') := by
  by_cases hv : wr (chk s f rs sel) (okL f rs en ys) 0 = 0
  · obtain ⟨c1, c2⟩ := wr_z hv
    obtain ⟨hq, hN, h0⟩ := q_bd c1 c2
    obtain ⟨n, n1, n2, n3⟩ := least (P := fun k => ((10000000 ^ k : Nat) : Int) < al (rt f rs sel en ys) k * 2) (N := lft f rs en ys) (by rw [h0]; have := Nat.pow_pos (n := lft f rs en ys) (show 0 < 10000000 by decide); omega)
    refine ⟨n, 0, fun x b => ?_, fun x b => ?_⟩
    · exact Probable_k s f vr vs en ys (lft f rs en ys) (lft f rs en ys + 1) n (rt f rs sel en ys) x hN rfl n1 hq n2 n3 (fun y bb => co_ok s f vr vs rs sel en ys x hs (hr.grow b) (hsel.grow b) c1 c2 y bb) (fun y g R => S1_of _ hq hN _ (Nat.le_refl _) y g R)
    · have WA := fun y (bb : Below x.heap.size x y) => wrong_any s f vr vs rs sel en ys 0 y hs ((hr.grow b).grow bb) ((hsel.grow b).grow bb)
      simp only [hv] at WA
      exact RProbable_k s f vr vs en ys (lft f rs en ys) n (rt f rs sel en ys) x hN n1 hq (fun k hk => (half_sv _ k).2 (n2 k hk)) (fun h => n3 ((half_sv _ n).1 h)) WA (fun y n hn bb => S_le s f vr vs rs sel en ys x (hr.grow b) (hsel.grow b) c1 c2 y n hn bb)
  · refine ⟨0, wr (chk s f rs sel) (okL f rs en ys) 0, fun x b => ?_, fun x b => ?_⟩
    · exact Probable_e s f vr vs en ys _ x (bne_0 hv) (fun y bb => co_bad s f vr vs rs sel en ys x hs (hr.grow b) (hsel.grow b) hv y bb)
    · exact RProbable_e s f vr vs en ys _ x (bne_0 hv) (fun y bb => wrong_any s f vr vs rs sel en ys 0 y hs ((hr.grow b).grow bb) ((hsel.grow b).grow bb))
end Go.Proofs.YtfalncbcomlelaaGreatDoor.Ta

namespace Go.Proofs.YtfalncbcomlelaaGreatDoor.Ta
open Go.RowKit

set_option maxRecDepth 100000 in
set_option maxHeartbeats 3200000 in
theorem expects_walk (s : ByteArray) (f : Int) (vr vs : Value) (en ys fr yr q e0 e1 : Int) (s1 t1 : ByteArray) (w : World) (C1 : ∀ x, Below w.heap.size w x → Calls Tryz.prog 19 #[.agg #[.string s, .int .i64 f, vr, vs], .agg #[.int .i64 en, .int .i64 ys], .int .i64 fr, .int .i64 yr] x fun e w' => e = .returned (.tuple #[.agg #[.string s1, .string t1], .int .i64 e1]) ∧ Below x.heap.size x w') (C2 : ∀ x, Below w.heap.size w x → Calls Tryz.prog 20 #[.agg #[.string s, .int .i64 f, vr, vs], .agg #[.int .i64 en, .int .i64 ys], .int .i64 fr, .int .i64 yr] x fun e w' => e = .returned (.tuple #[.agg #[.string s1, .string t1], .int .i64 e1]) ∧ Below x.heap.size x w') (C3 : ∀ x, Below w.heap.size w x → Calls Tryz.prog 21 #[.agg #[.string s, .int .i64 f, vr, vs], .agg #[.int .i64 en, .int .i64 ys]] x fun e w' => e = .returned (.tuple #[.int .i64 q, .int .i64 e0]) ∧ Below x.heap.size x w') (C4 : ∀ x, Below w.heap.size w x → Calls Tryz.prog 22 #[.agg #[.string s, .int .i64 f, vr, vs], .agg #[.int .i64 en, .int .i64 ys]] x fun e w' => e = .returned (.tuple #[.int .i64 q, .int .i64 e0]) ∧ Below x.heap.size x w') :
    Calls Tryz.prog 4 #[.agg #[.string s, .int .i64 f, vr, vs], .agg #[.int .i64 en, .int .i64 ys], .int .i64 fr, .int .i64 yr] w fun e w' => e = .returned (.bool true) ∧ Below w.heap.size w w' := by
  have KT := (Blk.new w #[.string s, .int .i64 f, vr, vs] 46).alloc (.cells #[.int .i64 en, .int .i64 ys] 48)
  have KL := Blk.new (w.alloc (.cells #[.string s, .int .i64 f, vr, vs] 46)) #[.int .i64 en, .int .i64 ys] 48
  simp only [World.size_alloc] at KL
  have pr : Below w.heap.size w ((w.alloc (.cells #[.string s, .int .i64 f, vr, vs] 46)).alloc (.cells #[.int .i64 en, .int .i64 ys] 48)) := ((Below.refl _ _).alloc (Nat.le_refl _) _).alloc (by simp) _
  go_enter Tryz.func4, Tryz.ntmps4
  go_wp2_with (first
    | (go_at_call 22; (have z4 := p3); (refine (C4 _ p3).mono ?_); (rintro e w4 ⟨rfl, b4⟩); (have bb4 := b4); (have p4 := Mo.bel' p3 bb4); (have KT4 := KT3.below bb4 KT3.lt); (have KL4 := KL3.below bb4 KL3.lt); (have V1_4 := V1_3.below bb4 V1_3.lt); (have V2_4 := V2_3.below bb4 V2_3.lt); (have c40 := KT4.at 0); (have c41 := KT4.at 1); (have c42 := KT4.at 2); (have c43 := KT4.at 3); (have c44 := KL4.at 0); (have c45 := KL4.at 1); (simp at c40 c41 c42 c43 c44 c45); (have q0 := V1_4.at 0); (have q1 := V1_4.at 1); (simp at q0 q1); (have q2 := V2_4.at 0); (have q3 := V2_4.at 1); (simp at q2 q3))
    | (go_at_call 21; (have z3 := p2); (refine (C3 _ p2).mono ?_); (rintro e w3 ⟨rfl, b3⟩); (have bb3 := b3); (have p3 := Mo.bel' p2 bb3); (have KT3 := KT2.below bb3 KT2.lt); (have KL3 := KL2.below bb3 KL2.lt); (have V1_3 := V1_2.below bb3 V1_2.lt); (have V2_3 := V2.below bb3 V2.lt); (have c30 := KT3.at 0); (have c31 := KT3.at 1); (have c32 := KT3.at 2); (have c33 := KT3.at 3); (have c34 := KL3.at 0); (have c35 := KL3.at 1); (simp at c30 c31 c32 c33 c34 c35))
    | (go_at_call 20; (have z2 := p1); (refine (C2 _ p1).mono ?_); (rintro e w2 ⟨rfl, b2⟩); (have al2 := (Below.refl w2.heap.size w2).alloc (Nat.le_refl _) (.cells #[.string s1, .string t1] 23)); (have V2 := Blk.new w2 #[.string s1, .string t1] 23); (have bb2 := Mo.bel' b2 al2); (have p2 := Mo.bel' p1 bb2); (have KT2 := KT1.below bb2 KT1.lt); (have KL2 := KL1.below bb2 KL1.lt); (have V1_2 := V1.below bb2 V1.lt); (have c20 := KT2.at 0); (have c21 := KT2.at 1); (have c22 := KT2.at 2); (have c23 := KT2.at 3); (have c24 := KL2.at 0); (have c25 := KL2.at 1); (simp at c20 c21 c22 c23 c24 c25))
    | (go_at_call 19; (refine (C1 _ pr).mono ?_); (rintro e w1 ⟨rfl, b1⟩); (have al1 := (Below.refl w1.heap.size w1).alloc (Nat.le_refl _) (.cells #[.string s1, .string t1] 23)); (have V1 := Blk.new w1 #[.string s1, .string t1] 23); (have bb1 := Mo.bel' b1 al1); (have p1 := Mo.bel' pr bb1); (have KT1 := KT.below bb1 KT.lt); (have KL1 := KL.below bb1 KL.lt); (have c10 := KT1.at 0); (have c11 := KT1.at 1); (have c12 := KT1.at 2); (have c13 := KT1.at 3); (have c14 := KL1.at 0); (have c15 := KL1.at 1); (simp at c10 c11 c12 c13 c14 c15))
    | fail)
  go_ret
  exact ⟨rfl, p4⟩
/-- The law. -/
theorem expects_law (s : ByteArray) (f : Int) (vr vs : Value) (rs : List Int) (sel : List (List Int)) (en ys fr yr : Int) (w : World) (hs : s.size ≤ 140737488351232) (hr : Rx w vr rs) (hsel : Rr w vs sel) (G : Mo.Gw w) :
    Calls Tryz.prog 4 #[.agg #[.string s, .int .i64 f, vr, vs], .agg #[.int .i64 en, .int .i64 ys], .int .i64 fr, .int .i64 yr] w fun e w' => e = .returned (.bool true) ∧ Below w.heap.size w w' := by
  obtain ⟨q, e0, c3, c4⟩ := Probable_both s f vr vs rs sel en ys w hs hr hsel
  obtain ⟨s1, t1, e1, f1⟩ := aE_form (wx (wr (chk s f rs sel) (okL f rs en ys) fr) yr) (exq f rs sel en ys fr.toNat yr.toNat)
  have c1 := fun x (b : Below w.heap.size w x) => Expect_any s f vr vs rs sel en ys fr yr x hs (hr.grow b) (hsel.grow b) (G.grow b)
  have c2 := fun x (b : Below w.heap.size w x) => RExpect_any s f vr vs rs sel en ys fr yr x hs (hr.grow b) (hsel.grow b)
  simp only [f1] at c1 c2
  exact expects_walk s f vr vs en ys fr yr q e0 e1 s1 t1 w c1 c2 c3 c4
end Go.Proofs.YtfalncbcomlelaaGreatDoor.Ta

namespace Go.Proofs.YtfalncbcomlelaaGreatDoor.Dy
open Mo
theorem gPow : Tryz.prog.globalNamed "internal/strconv.uint64pow10" = some 4 := by kernel_rfl
theorem gw_of {w : World} (h : Go.Lib.TabIs Tryz.prog w "internal/strconv.uint64pow10" .u64 Go.Lib.pow10Tab) : Gw w := fun _ b => Go.Joins.var_stays gPow h b (Nat.le_refl _)
end Go.Proofs.YtfalncbcomlelaaGreatDoor.Dy
