import Derived.Test.YtejfnplhimfchaaGreatDoorPart13
import Derived.Test.YtejfnplhimfchaaGreatDoorPart22
import Derived.Test.YtejfnplhimfchaaGreatDoorPart17
import Derived.Test.YtejfnplhimfchaaGreatDoorPart19
import Derived.Deep.RegionHeld3

namespace Go.Proofs.YtejfnplhimfchaaGreatDoor
open Go.RowKit Tn

/-- A row that does not lie below a place. -/
def FrA (base : Nat) (v : Value) : Prop := ∀ b o l c, v = .slice (some ⟨b, o, none⟩) l c → base ≤ b
set_option maxHeartbeats 1600000 in
set_option maxRecDepth 100000 in
theorem mulPlainly_new (a1 a2 : Option Addr) (c1 c2 : Nat) (xs ys : List Int) (w : World) (hx : Wd xs) (hy : Wd ys) (hL : xs.length ≤ 274877906944) (hL2 : ys.length ≤ 274877906944) (h1 : 0 < xs.length → ∃ b o, a1 = some ⟨b, o, none⟩ ∧ Cells w b o xs) (h2 : 0 < ys.length → ∃ b o, a2 = some ⟨b, o, none⟩ ∧ Cells w b o ys) :
    Calls Tryz.prog 74 #[.agg #[.slice a1 xs.length c1], .agg #[.slice a2 ys.length c2]] w fun e w' => ∃ r zs, e = .returned (.agg #[r]) ∧ Rd w' r zs ∧ Nm zs ∧ val zs = val xs * val ys ∧ Below w.heap.size w w' ∧ FrA w.heap.size r := by
  have hs : Hid (∀ w', Below w.heap.size w w' → 0 < xs.length → ∃ b o, a1 = some ⟨b, o, none⟩ ∧ b ≠ w.heap.size + 1 + 1 + 1 ∧ Cells w' b o xs) := fun w' h l => by obtain ⟨b, o, e, c⟩ := h1 l; exact ⟨b, o, e, by have := c.lt l; omega, c.grow h⟩
  have hs2 : Hid (∀ w', Below w.heap.size w w' → 0 < ys.length → ∃ b o, a2 = some ⟨b, o, none⟩ ∧ b ≠ w.heap.size + 1 + 1 + 1 ∧ Cells w' b o ys) := fun w' h l => by obtain ⟨b, o, e, c⟩ := h2 l; exact ⟨b, o, e, by have := c.lt l; omega, c.grow h⟩
  clear h1 h2
  go_enter Tryz.func74, Tryz.ntmps74
  go_wp2_with (first
    | (at_make; refine wpList_make_words rfl _ _ rfl (xs.length + ys.length) _ _ rfl rfl (by simp) (by simp) (by omega) ?_; intro w1 k1 k2 k3 k4; have X0 := (((Bx.new w _ _).alloc _).alloc _).below k3; have X1 := ((Bx.new _ _ _).alloc _).below k3; have X2 := (Bx.new _ _ _).below k3; simp only [World.size_alloc] at X1 X2 k1 k2 k3 k4; have q0 := below_alloc3 k3; clear k3; have x1 := X1.1)
    | fail)
  clear x1
  go_loopw [21] (fun i wr => ∃ (k : Nat) (X : List Int), k ≤ ys.length ∧ i = .int .i64 k ∧ X.length = xs.length + ys.length ∧ Wd X ∧ X.drop (xs.length + k) = List.replicate (ys.length - k) 0 ∧ val X = val xs * val (ys.take k) ∧ Cells wr (w.heap.size + 1 + 1 + 1) 0 X ∧ Wr (w.heap.size + 1 + 1 + 1) 0 (xs.length + ys.length) w1 wr) (fun i _ => ys.length - (intOf i).toNat)
  case atStart => exact ⟨0, List.replicate (xs.length + ys.length) 0, Nat.zero_le _, rfl, by simp, Wd.zeros _, by simp, by simp [val_zeros, val], k1, Wr.refl _ _ _ _⟩
  case round =>
    obtain ⟨k, X, hk, rfl, hl, hw, hd, hv, hcX, hwr⟩ := hrel
    have HV : Hid (val X = val xs * val (ys.take k)) := hv
    have HD : Hid (X.drop (xs.length + k) = List.replicate (ys.length - k) 0) := hd
    have HL : Hid (X.length = xs.length + ys.length) := hl
    clear hv hd hl
    have pr := q0.trans (hwr.below (B := w.heap.size) (by omega) (by have := q0.size; omega))
    have Y0 := X0.wr hwr (by omega)
    have Y2 := X2.wr hwr (by omega)
    by_cases hlt : k < ys.length
    · obtain ⟨b2, o2, rfl, hne, hcW⟩ := hs2.out wr pr (by omega)
      have e1 := hcW.at (i := k) hlt
      have b1 := nth_bd hy k
      have y0 := Y0.1
      have hS : Hid (((X.drop k).take xs.length).length = xs.length) := by show _ = _; rw [List.length_take, List.length_drop, HL.out]; omega
      have hcS : Hid (Cells wr (w.heap.size + 1 + 1 + 1) k ((X.drop k).take xs.length)) := by have := (hcX.drop k).take xs.length; rwa [Nat.zero_add] at this
      have hsl := slice_lh (w.heap.size + 1 + 1 + 1) 0 (xs.length + ys.length) (xs.length + ys.length) (k : Int) ((k : Int) + (xs.length : Int)) k xs.length rfl rfl (by omega) (by omega)
      rw [Nat.zero_add] at hsl
      have g0 : Hid (wr.cell? ⟨w.heap.size + 1 + 1 + 1, k + xs.length, none⟩ = some (.int .u64 (nth X (k + xs.length)))) := by have := hcX (k + xs.length) (by have := HL.out; omega); rw [Nat.zero_add] at this; exact this
      have hwp : IntKind.i64.wrap ((k : Int) + (xs.length : Int)) = (k : Int) + (xs.length : Int) := IntWalk.i64_in _ (by omega)
      go_wp2_with fail
      go_region_with (go_at_call 92; go_must (refine (addProduct_any (w.heap.size + 1 + 1 + 1) k _ _ ((X.drop k).take xs.length) a1 _ xs (nth ys k) _ hS.out.symm ((hw.drop k).take _) hx hS.out.symm b1.1 b1.2 (by have := hS.out; omega) hcS.out.drew ((k2.wr hwr).free _ _).drew (hs.out _ pr.drew)).mono ?_; rintro e w2 ⟨S', c, rfl, c0, c1, hl', hw', hv', hc', hwr'⟩; rw [hS.out] at hl' hwr'; have g1 := (hwr'.undrew.cell (k + xs.length) (by omega)).trans g0.out; have g2 := ((k2.wr hwr).wr hwr'.undrew).free 0 (k + xs.length + 1) (k + xs.length) (by omega); rw [Nat.zero_add] at g2))
      have R : Hid _ := mul_round hlt HL.out hw HD.out HV.out hl' hw' c0 c1 (by rw [hS.out] at hv'; exact hv')
      have RC : Hid (Cells w2 (w.heap.size + 1 + 1 + 1) 0 (spl X k xs.length S')) := hcX.spl (k := k) (n := xs.length) (by have := HL.out; omega) hl' hwr'.undrew hc'
      have RW : Hid (Wr (w.heap.size + 1 + 1 + 1) 0 (xs.length + ys.length) w1 w2) := hwr.trans (hwr'.undrew.mono (o' := 0) (n' := xs.length + ys.length) (by omega) (by omega))
      clear hv' hc' hwr'
      go_wp2
      go_roundw
      case rel => exact ⟨k + 1, (spl X k xs.length S').set (k + xs.length) c, by omega, by go_num, R.out.1, R.out.2.1, R.out.2.2.1, R.out.2.2.2, by have := RC.out.set (k + xs.length) (by rw [spl_len (by have := HL.out; omega) hl']; have := HL.out; omega) c; rwa [Nat.zero_add] at this, RW.out.setCell _ (by omega) _⟩
      case measure => simp [intOf]; omega
    · have ek : k = ys.length := by omega
      subst ek
      have hsum : Hid (val X = val xs * val ys) := by have := HV.out; rwa [List.take_length] at this
      clear HV HD
      go_wp2_with fail
      refine (trim_rd _ _ _ X wr HL.out.symm hw (by have := HL.out; omega) (by omega) (fun _ => ⟨_, _, rfl, hcX⟩)).mono ?_
      rintro e w4 ⟨n, zs, rfl, -, hrd, hnm, hvz, hbl⟩
      have V2 := Y2.below hbl
      have v1 := V2.1
      have v2 := V2.2
      have hvz' : Hid (val zs = val xs * val ys) := hvz.trans hsum.out
      clear hvz
      go_wp2
      refine bodyPost_ret (v := .agg #[.slice (some ⟨w.heap.size + 1 + 1 + 1, 0, none⟩) n (xs.length + ys.length)]) (by simp [results, Tryz.results74, go_sem, v1]) rfl ⟨_, zs, rfl, hrd.put (by intro b o l c e; simp at e; omega), hnm, hvz'.out, below_put (pr.trans (hbl.mono pr.size)) (by omega) _, by intro b o l c e; simp at e; omega⟩
/-- (Nat).mulPlainly. -/
theorem mulPlainly_anyF (v1 v2 : Value) (xs ys : List Int) (w : World) (h1 : Rd w v1 xs) (h2 : Rd w v2 ys) (l1 : xs.length ≤ 274877906944) (l2 : ys.length ≤ 274877906944) :
    Calls Tryz.prog 74 #[.agg #[v1], .agg #[v2]] w fun e w' => ∃ r zs, e = .returned (.agg #[r]) ∧ Rd w' r zs ∧ Nm zs ∧ val zs = val xs * val ys ∧ Below w.heap.size w w' ∧ FrA w.heap.size r := by
  obtain ⟨w1, a1, c1, rfl, _, _, g1⟩ := h1
  obtain ⟨w2, a2, c2, rfl, _, _, g2⟩ := h2
  exact mulPlainly_new a1 a2 c1 c2 xs ys w w1 w2 l1 l2 g1 g2

set_option maxRecDepth 100000 in
theorem mul_longF (v1 v2 : Value) (a1 a2 : Option Addr) (c1 c2 : Nat) (xs ys : List Int) (w : World) (e1 : v1 = .slice a1 xs.length c1) (e2 : v2 = .slice a2 ys.length c2) (h1 : Rd w v1 xs) (h2 : Rd w v2 ys) (hle : ys.length ≤ xs.length) (hs : ys.length < 80) (hL : xs.length ≤ 274877906944) :
    Calls Tryz.prog 50 #[.agg #[v1], .agg #[v2]] w fun e w' => ∃ r zs, e = .returned (.agg #[r]) ∧ Rd w' r zs ∧ Nm zs ∧ val zs = val xs * val ys ∧ Below w.heap.size w w' ∧ FrA w.heap.size r := by
  have H1 : Hid (Rd w v1 xs) := h1
  have H2 : Hid (Rd w v2 ys) := h2
  clear h1 h2
  subst e1 e2
  have pr : Below w.heap.size w (((w.alloc (.cells #[.slice a1 xs.length c1] 48)).alloc (.cells #[.slice a2 ys.length c2] 48)).alloc (.cells #[.slice none 0 0] 48)) := (((Below.refl _ _).alloc (Nat.le_refl _) _).alloc (by simp) _).alloc (by simp; omega) _
  go_enter Tryz.func50, Tryz.ntmps50
  go_wp2_with fail
  refine (mulPlainly_anyF _ _ xs ys _ (H1.out.grow pr) (H2.out.grow pr) hL (by omega)).mono ?_
  rintro e w4 ⟨r, zs, rfl, hrd, hnm, hvz, hbl, hfr⟩
  obtain ⟨ra, rl, rc, rfl⟩ := hrd.shape
  have V2 := (Bx.new _ _ _).below hbl
  simp only [World.size_alloc] at V2
  have v1 := V2.1
  have v2 := V2.2
  have HVZ : Hid (val zs = val xs * val ys) := hvz
  clear hvz
  go_wp2
  refine bodyPost_ret (v := .agg #[.slice ra rl rc]) (by simp [results, Tryz.results50, go_sem, v1]) rfl ⟨_, zs, rfl, hrd.box V2, hnm, HVZ.out, below_put (pr.trans (hbl.mono pr.size)) (by omega) _, fun b o l c e => Nat.le_trans pr.size (hfr b o l c e)⟩

set_option maxRecDepth 100000 in
theorem mul_shortF (v1 v2 : Value) (a1 a2 : Option Addr) (c1 c2 : Nat) (xs ys : List Int) (w : World) (e1 : v1 = .slice a1 xs.length c1) (e2 : v2 = .slice a2 ys.length c2) (h1 : Rd w v1 xs) (h2 : Rd w v2 ys) (hle : xs.length < ys.length) (hs : xs.length < 80) (hL : ys.length ≤ 274877906944) :
    Calls Tryz.prog 50 #[.agg #[v1], .agg #[v2]] w fun e w' => ∃ r zs, e = .returned (.agg #[r]) ∧ Rd w' r zs ∧ Nm zs ∧ val zs = val xs * val ys ∧ Below w.heap.size w w' ∧ FrA w.heap.size r := by
  have H1 : Hid (Rd w v1 xs) := h1
  have H2 : Hid (Rd w v2 ys) := h2
  clear h1 h2
  subst e1 e2
  have pr : Below w.heap.size w (((w.alloc (.cells #[.slice a2 ys.length c2] 48)).alloc (.cells #[.slice a1 xs.length c1] 48)).alloc (.cells #[.slice none 0 0] 48)) := (((Below.refl _ _).alloc (Nat.le_refl _) _).alloc (by simp) _).alloc (by simp; omega) _
  go_enter Tryz.func50, Tryz.ntmps50
  go_wp2_with fail
  refine (mulPlainly_anyF _ _ ys xs _ (H2.out.grow pr) (H1.out.grow pr) hL (by omega)).mono ?_
  rintro e w4 ⟨r, zs, rfl, hrd, hnm, hvz, hbl, hfr⟩
  obtain ⟨ra, rl, rc, rfl⟩ := hrd.shape
  have V2 := (Bx.new _ _ _).below hbl
  simp only [World.size_alloc] at V2
  have v1 := V2.1
  have v2 := V2.2
  have HVZ : Hid (val zs = val xs * val ys) := hvz.trans (Int.mul_comm _ _)
  clear hvz
  go_wp2
  refine bodyPost_ret (v := .agg #[.slice ra rl rc]) (by simp [results, Tryz.results50, go_sem, v1]) rfl ⟨_, zs, rfl, hrd.box V2, hnm, HVZ.out, below_put (pr.trans (hbl.mono pr.size)) (by omega) _, fun b o l c e => Nat.le_trans pr.size (hfr b o l c e)⟩

/-- (Nat).Mul, where one of both is short. -/
theorem Mul_shortF (v1 v2 : Value) (xs ys : List Int) (w : World) (h1 : Rd w v1 xs) (h2 : Rd w v2 ys) (hs : xs.length < 80 ∨ ys.length < 80) (l1 : xs.length ≤ 274877906944) (l2 : ys.length ≤ 274877906944) :
    Calls Tryz.prog 50 #[.agg #[v1], .agg #[v2]] w fun e w' => ∃ r zs, e = .returned (.agg #[r]) ∧ Rd w' r zs ∧ Nm zs ∧ val zs = val xs * val ys ∧ Below w.heap.size w w' ∧ FrA w.heap.size r := by
  obtain ⟨_, a1, c1, e1, _, _, _⟩ := id h1
  obtain ⟨_, a2, c2, e2, _, _, _⟩ := id h2
  by_cases h : ys.length ≤ xs.length
  · exact mul_longF v1 v2 a1 a2 c1 c2 xs ys w e1 e2 h1 h2 h (by omega) l1
  · exact mul_shortF v1 v2 a1 a2 c1 c2 xs ys w e1 e2 h1 h2 (by omega) (by omega) l2
end Go.Proofs.YtejfnplhimfchaaGreatDoor

namespace Go.Proofs.YtejfnplhimfchaaGreatDoor.Mo
open Go.RowKit Dc Tn

theorem word_val {xs : List Int} (h : Wd xs) (hv : val xs < 18446744073709551616) : nth xs 0 = val xs := by
  cases xs with
  | nil => simp [nth, val]
  | cons x xs =>
    have h1 : Wd xs := fun y hy => h y (List.mem_cons_of_mem _ hy)
    have := val_nonneg h1
    have hx := (nth_bd h 0).1
    simp only [val, nth] at *
    simp at *
    omega
set_option maxHeartbeats 1600000 in
set_option maxRecDepth 100000 in
theorem pennies_any (g : Bool) (v1 v2 : Value) (xs : List Int) (w : World) (h1 : Rd w v1 xs) (n1 : Nm xs) (lx : xs.length ≤ 1000000) (hs : ∃ a l c, v2 = .slice a l c) :
    Calls Tryz.prog 19 #[.agg #[.bool g, v1, v2]] w fun e w' => e = .returned (if val xs ≤ 1000000000000000 then .tuple #[.int .i64 (if g = true then -val xs else val xs), .int .i64 0] else .tuple #[.int .i64 0, .int .i64 6]) ∧ Below w.heap.size w w' := by
  have H1 : Hid (Rd w v1 xs) := h1
  obtain ⟨a1, m1, c1, rfl⟩ := h1.shape
  obtain ⟨a2, m2, c2, rfl⟩ := hs
  clear h1
  have x0 := val_nonneg H1.out.1
  have K0 := Rb.new w (.bool g) (.slice a1 m1 c1) (.slice a2 m2 c2) 50
  have pr : Below w.heap.size w (w.alloc (.cells #[.bool g, .slice a1 m1 c1, .slice a2 m2 c2] 50)) := (Below.refl _ _).alloc (Nat.le_refl _) _
  obtain ⟨cm, hcm⟩ : ∃ q, cmp3 (val xs) 1000000000000000 = q := ⟨_, rfl⟩
  have A1 : ∀ x, Calls Tryz.prog 45 #[.int .u64 1000000000000000] x fun e w' => ∃ a l c ts, e = .returned (.agg #[.slice a l c]) ∧ Rd w' (.slice a l c) ts ∧ Nm ts ∧ val ts = 1000000000000000 ∧ Below x.heap.size x w' := fun x => by
    refine (Of_any 1000000000000000 x (by decide) (by decide)).mono ?_
    rintro e w' ⟨r, ts, rfl, hr, hn, hv, bb⟩
    obtain ⟨a, l, c, rfl⟩ := hr.shape
    exact ⟨a, l, c, ts, rfl, hr, hn, hv, bb⟩
  have C : ∀ x a l c ts, Below w.heap.size w x → Rd x (.slice a l c) ts → Nm ts → val ts = 1000000000000000 → Calls Tryz.prog 44 #[.agg #[.slice a1 m1 c1], .agg #[.slice a l c]] x fun e w' => e = .returned (.int .i64 cm) ∧ Below x.heap.size x w' := fun x a l c ts b hr hn hv => by
    have := Cmp_any (.slice a1 m1 c1) (.slice a l c) xs ts x (H1.out.grow b) hr n1 hn (by omega)
    rw [hv, hcm] at this
    exact this
  by_cases hv : val xs ≤ 1000000000000000
  · rw [if_pos hv]
    have hc0 : ¬ (0 : Int) < cm := by rw [← hcm]; unfold cmp3; split <;> (try split) <;> omega
    have Wd1 : ∀ x, Below w.heap.size w x → Calls Tryz.prog 47 #[.agg #[.slice a1 m1 c1]] x fun e w' => e = .returned (.int .u64 (val xs)) ∧ Below x.heap.size x w' := fun x b => by
      have := lowest_any (.slice a1 m1 c1) xs x (H1.out.grow b) n1
      rw [word_val H1.out.1 (by omega)] at this
      exact this
    have Sg := fun x b => sign_any g (.slice a1 m1 c1) (.slice a2 m2 c2) xs x (H1.out.grow (w' := x) b) n1 ⟨_, _, _, rfl⟩
    obtain ⟨s, hs⟩ : ∃ s : Int, (if g = true then -1 else if val xs = 0 then 0 else 1) = s := ⟨_, rfl⟩
    rw [hs] at Sg
    have HS : Hid (s * val xs = if g = true then -val xs else val xs) := by
      show _ = _
      rw [← hs]
      cases g <;> simp
      by_cases hz : val xs = 0 <;> simp [hz]
    have s1 : s = -1 ∨ s = 0 ∨ s = 1 := by rw [← hs]; split <;> (try split) <;> simp
    obtain ⟨V, hV⟩ : ∃ V, val xs = V := ⟨_, rfl⟩
    rw [hV] at Wd1 hv x0 HS ⊢
    obtain ⟨T, hT⟩ : ∃ T, (if g = true then -V else V) = T := ⟨_, rfl⟩
    rw [hT] at HS ⊢
    clear hT
    have w1 : IntKind.i64.wrap V = V := IntWalk.i64_in _ (by omega)
    have w2 : IntKind.i64.wrap (s * V) = s * V := IntWalk.i64_in _ (by rcases s1 with rfl | rfl | rfl <;> omega)
    clear hs hV s1 hcm
    go_enter Tryz.func19, Tryz.ntmps19
    go_wp2_with fail
    generalize w.alloc (.cells #[.bool g, .slice a1 m1 c1, .slice a2 m2 c2] 50) = W at *
    have k0 := K0.c0
    have k1 := K0.c1
    have k2 := K0.c2
    go_cut [8] (fun c wc => c = .bool false ∧ Below W.heap.size W wc)
    case first =>
      go_region_held3 (fun x => x.cell? ⟨w.heap.size, 1, none⟩ = some (.slice a1 m1 c1)) (go_keep) (first
        | (go_at_call 45; refine (A1 _).mono ?_; rintro e x1 ⟨a7, l7, c7, ts, rfl, t1, t2, t3, b1⟩; have b1 := undrew b1; have p1 := (K0.grow b1).c1)
        | (go_at_call 44; refine (C _ _ _ _ ts (bel' pr b1) t1 t2 t3).mono ?_; rintro e x2 ⟨rfl, b2⟩; have b2 := bel' b1 b2; have p1 := (K0.grow b2).c1)
        | fail)
      all_goals
        go_wp2_with fail
        go_meet
        case rel => exact ⟨by simp [hc0], b2⟩
    case rest =>
      obtain ⟨rfl, b⟩ := hcut
      replace K0 := K0.grow b
      replace pr := bel' pr b
      clear k0 k1 k2 A1 C b
      have k0 := K0.c0
      have k1 := K0.c1
      have k2 := K0.c2
      go_wp2_with fail
      go_region_held3 (fun x => x.cell? ⟨w.heap.size, 0, none⟩ = some (.bool g) ∧ x.cell? ⟨w.heap.size, 1, none⟩ = some (.slice a1 m1 c1) ∧ x.cell? ⟨w.heap.size, 2, none⟩ = some (.slice a2 m2 c2)) (go_keep) (first
        | (go_at_call 46; refine (Sg _ pr.drew).mono ?_; rintro e x1 ⟨rfl, b1⟩; have b1 := undrew b1; have p0 := (K0.grow b1).c0; have p1 := (K0.grow b1).c1; have p2 := (K0.grow b1).c2)
        | (go_at_call 47; refine (Wd1 _ (bel' pr b1)).mono ?_; rintro e x2 ⟨rfl, b2⟩; have b2 := bel' b1 b2; have p0 := (K0.grow b2).c0; have p1 := (K0.grow b2).c1; have p2 := (K0.grow b2).c2)
        | fail)
      all_goals
        go_wp2
        exact bodyPost_ret (v := .tuple #[.int .i64 (s * V), .int .i64 0]) (by simp [results, Tryz.results19, go_sem]) rfl ⟨by rw [HS.out], bel' pr b2⟩
  · rw [if_neg hv]
    have hc0 : (0 : Int) < cm := by rw [← hcm]; unfold cmp3; split <;> (try split) <;> omega
    clear hcm
    go_enter Tryz.func19, Tryz.ntmps19
    go_wp2_with fail
    generalize w.alloc (.cells #[.bool g, .slice a1 m1 c1, .slice a2 m2 c2] 50) = W at *
    have k0 := K0.c0
    have k1 := K0.c1
    have k2 := K0.c2
    go_cut [8] (fun c wc => c = .bool true ∧ Below W.heap.size W wc)
    case first =>
      go_region_held3 (fun x => x.cell? ⟨w.heap.size, 1, none⟩ = some (.slice a1 m1 c1)) (go_keep) (first
        | (go_at_call 45; refine (A1 _).mono ?_; rintro e x1 ⟨a7, l7, c7, ts, rfl, t1, t2, t3, b1⟩; have b1 := undrew b1; have p1 := (K0.grow b1).c1)
        | (go_at_call 44; refine (C _ _ _ _ ts (bel' pr b1) t1 t2 t3).mono ?_; rintro e x2 ⟨rfl, b2⟩; have b2 := bel' b1 b2; have p1 := (K0.grow b2).c1)
        | fail)
      all_goals
        go_wp2_with fail
        go_meet
        case rel => exact ⟨by simp, b2⟩
    case rest =>
      obtain ⟨rfl, b⟩ := hcut
      go_wp2
      exact bodyPost_ret (v := .tuple #[.int .i64 0, .int .i64 6]) (by simp [results, Tryz.results19, go_sem]) rfl ⟨rfl, bel' pr b⟩
end Go.Proofs.YtejfnplhimfchaaGreatDoor.Mo

namespace Go.Proofs.YtejfnplhimfchaaGreatDoor.Mo
open Go.RowKit Dc Tn

/-- A whole number of the program's, by its value. -/
def Nn (x : World) (a : Option Addr) (l c : Nat) (N : Int) : Prop := ∃ xs, Rd x (.slice a l c) xs ∧ Nm xs ∧ val xs = N
theorem Nn.grow {x x' : World} {a : Option Addr} {l c : Nat} {N : Int} (h : Nn x a l c N) (b : Below x.heap.size x x') : Nn x' a l c N := by
  obtain ⟨xs, r, n, v⟩ := h
  exact ⟨xs, r.grow b, n, v⟩
theorem Nn.nonneg {x : World} {a : Option Addr} {l c : Nat} {N : Int} (h : Nn x a l c N) : 0 ≤ N := by
  obtain ⟨xs, r, n, rfl⟩ := h
  exact val_nonneg r.1
theorem Nn.box {x : World} {a : Option Addr} {l c n : Nat} {N : Int} {u : Value} {b' : Option Addr} {l' c' : Nat} (h : Nn x a l c N) (K : Bx x n (.slice b' l' c')) : Nn (x.setCell ⟨n, 0, none⟩ u) a l c N := by
  obtain ⟨xs, r, m, v⟩ := h
  exact ⟨xs, r.box K, m, v⟩
theorem Nn.putF {w : World} {n : Nat} {a : Option Addr} {l c : Nat} {N : Int} {x y z : Value} {g : Bool} {a1 a2 : Option Addr} {n1 c1 n2 c2 : Nat} (h : Nn w a l c N) (R : Rb w n (.bool g) (.slice a1 n1 c1) (.slice a2 n2 c2)) : Nn (((w.setCell ⟨n, 0, none⟩ x).setCell ⟨n, 1, none⟩ y).setCell ⟨n, 2, none⟩ z) a l c N := by
  obtain ⟨xs, r, m, v⟩ := h
  exact ⟨xs, Rd.putF r R, m, v⟩
/-- A value that is such a number. -/
def NV (N : Int) (t : Value) (x : World) : Prop := ∃ a l c, t = .agg #[.slice a l c] ∧ Nn x a l c N
theorem NV.grow {N : Int} {t : Value} {x x' : World} (h : NV N t x) (b : Below x.heap.size x x') : NV N t x' := by
  obtain ⟨a, l, c, e, h⟩ := h
  exact ⟨a, l, c, e, h.grow b⟩
theorem len_of {xs : List Int} {n : Nat} (h : Wd xs) (k : Nm xs) (v : val xs < pw n) : xs.length ≤ n := by
  by_cases e : xs = []
  · subst e; simp
  · have := val_low h k e
    by_cases c : xs.length ≤ n
    · exact c
    · have := pw_mono (show n ≤ xs.length - 1 by omega)
      omega
theorem GCD_n {a1 a2 : Option Addr} {l1 c1 l2 c2 : Nat} {A B : Int} {x : World} (h1 : Nn x a1 l1 c1 A) (h2 : Nn x a2 l2 c2 B) {m : Nat} (hA : A < pw m) (hB : B < pw m) (hm : m ≤ 1000000) :
    Calls Tryz.prog 42 #[.agg #[.slice a1 l1 c1], .agg #[.slice a2 l2 c2]] x fun e w' => ∃ a l c, e = .returned (.agg #[.slice a l c]) ∧ Nn w' a l c (Int.gcd A B) ∧ Below x.heap.size x w' := by
  obtain ⟨xs, r1, n1, rfl⟩ := h1
  obtain ⟨ys, r2, n2, rfl⟩ := h2
  have := len_of r1.1 n1 hA
  have := len_of r2.1 n2 hB
  refine (GCD_any _ _ xs ys x r1 r2 n1 n2 (by omega) (by omega)).mono ?_
  rintro e w' ⟨r, zs, rfl, hr, hn, hv, b⟩
  obtain ⟨a, l, c, rfl⟩ := hr.shape
  exact ⟨a, l, c, rfl, ⟨zs, hr, hn, hv⟩, b⟩
theorem by_n {a1 a2 : Option Addr} {l1 c1 l2 c2 : Nat} {A B : Int} {x : World} (h1 : Nn x a1 l1 c1 A) (h2 : Nn x a2 l2 c2 B) {m : Nat} (hA : A < pw m) (hB : 0 < B) (hm : m ≤ 1000000) :
    Calls Tryz.prog 49 #[.agg #[.slice a1 l1 c1], .agg #[.slice a2 l2 c2]] x fun e w' => ∃ a l c, e = .returned (.agg #[.slice a l c]) ∧ Nn w' a l c (A / B) ∧ Below x.heap.size x w' := by
  obtain ⟨xs, r1, n1, rfl⟩ := h1
  obtain ⟨ys, r2, n2, rfl⟩ := h2
  have := len_of r1.1 n1 hA
  refine (by_any _ _ xs ys x r1 r2 n1 n2 hB (by omega)).mono ?_
  rintro e w' ⟨r, zs, rfl, hr, hn, hv, b⟩
  obtain ⟨a, l, c, rfl⟩ := hr.shape
  exact ⟨a, l, c, rfl, ⟨zs, hr, hn, hv⟩, b⟩
theorem IsZero_n {a : Option Addr} {l c : Nat} {A : Int} {x : World} (h : Nn x a l c A) :
    Calls Tryz.prog 51 #[.agg #[.slice a l c]] x fun e w' => e = .returned (.bool (decide (A = 0))) ∧ Below x.heap.size x w' := by
  obtain ⟨xs, r, n, rfl⟩ := h
  exact IsZero_any _ xs x r n
/-- Words that do not lie in block n. -/
def Off (a : Option Addr) (l n : Nat) : Prop := ∀ b o, 0 < l → a = some ⟨b, o, none⟩ → b ≠ n
theorem Nn.off {w : World} {a : Option Addr} {l c n : Nat} {N : Int} {cs : Array Value} {t : TypeId} (h : Nn w a l c N) (K : Blk w n cs t) (hc : ∀ (i : Nat) k z, cs[i]? ≠ some (.int k z)) : Off a l n := by
  obtain ⟨xs, ⟨h1, a', c', e, _, _, h5⟩, _, _⟩ := h
  obtain ⟨rfl, rfl, rfl⟩ : a = a' ∧ l = xs.length ∧ c = c' := by injection e with e1 e2 e3; exact ⟨e1, e2, e3⟩
  rintro b o l0 rfl rfl
  obtain ⟨b', o', e', cc⟩ := h5 l0
  obtain ⟨rfl, rfl⟩ : b = b' ∧ o = o' := by injection e' with e'; injection e' with e1 e2; exact ⟨e1, e2⟩
  have h0 := cc 0 l0
  rw [K.at] at h0
  exact hc _ _ _ h0
theorem Nn.set {w : World} {a : Option Addr} {l c n : Nat} {N : Int} (h : Nn w a l c N) (f : Off a l n) (i : Nat) (v : Value) : Nn (w.setCell ⟨n, i, none⟩ v) a l c N := by
  obtain ⟨xs, ⟨h1, a', c', e, h2, h3, h5⟩, hn, hv⟩ := h
  obtain ⟨rfl, rfl, rfl⟩ : a = a' ∧ l = xs.length ∧ c = c' := by injection e with e1 e2 e3; exact ⟨e1, e2, e3⟩
  refine ⟨xs, ⟨h1, a, c, rfl, h2, h3, fun l0 => ?_⟩, hn, hv⟩
  obtain ⟨b, o, rfl, cc⟩ := h5 l0
  refine ⟨b, o, rfl, fun j hj => ?_⟩
  have := f b o l0 rfl
  rw [World.cell?_setCell_other _ _ _ _ (by simp; try omega)]
  exact cc j hj
theorem Nn.drew {x : World} {a : Option Addr} {l c : Nat} {N : Int} (h : Nn x a l c N) : Nn x.drew a l c N := by
  obtain ⟨xs, r, n, v⟩ := h
  exact ⟨xs, Rd.drew r, n, v⟩
theorem Add_n {P1 P2 : Option Addr} {M1 C1 M2 C2 : Nat} {A B : Int} {x : World} (h1 : Nn x P1 M1 C1 A) (h2 : Nn x P2 M2 C2 B) {m : Nat} (hA : A < pw m) (hB : B < pw m) (hm : m ≤ 1000000) :
    Calls Tryz.prog 56 #[.agg #[.slice P1 M1 C1], .agg #[.slice P2 M2 C2]] x fun e w' => ∃ a l c, e = .returned (.agg #[.slice a l c]) ∧ Nn w' a l c (A + B) ∧ Below x.heap.size x w' := by
  obtain ⟨xs, r1, n1, rfl⟩ := h1
  obtain ⟨ys, r2, n2, rfl⟩ := h2
  have := len_of r1.1 n1 hA
  have := len_of r2.1 n2 hB
  refine (Add_any _ _ xs ys x r1 r2 (by omega) (by omega)).mono ?_
  rintro e w' ⟨r, zs, rfl, hr, hn, hv, b⟩
  obtain ⟨a, l, c, rfl⟩ := hr.shape
  exact ⟨a, l, c, rfl, ⟨zs, hr, hn, hv⟩, b⟩
theorem Sub_n {P1 P2 : Option Addr} {M1 C1 M2 C2 : Nat} {A B : Int} {x : World} (h1 : Nn x P1 M1 C1 A) (h2 : Nn x P2 M2 C2 B) {m : Nat} (hA : A < pw m) (hB : B < pw m) (hm : m ≤ 1000000) (hBA : B ≤ A) :
    Calls Tryz.prog 94 #[.agg #[.slice P1 M1 C1], .agg #[.slice P2 M2 C2]] x fun e w' => ∃ a l c, e = .returned (.agg #[.slice a l c]) ∧ Nn w' a l c (A - B) ∧ Below x.heap.size x w' := by
  obtain ⟨xs, r1, n1, rfl⟩ := h1
  obtain ⟨ys, r2, n2, rfl⟩ := h2
  have := len_of r1.1 n1 hA
  have := len_of r2.1 n2 hB
  refine (Sub_any _ _ xs ys x r1 r2 n2 hBA (by omega)).mono ?_
  rintro e w' ⟨r, zs, rfl, hr, hn, hv, b⟩
  obtain ⟨a, l, c, rfl⟩ := hr.shape
  exact ⟨a, l, c, rfl, ⟨zs, hr, hn, hv⟩, b⟩
theorem Cmp_n {P1 P2 : Option Addr} {M1 C1 M2 C2 : Nat} {A B : Int} {x : World} (h1 : Nn x P1 M1 C1 A) (h2 : Nn x P2 M2 C2 B) {m : Nat} (hA : A < pw m) (hm : m ≤ 1000000) :
    Calls Tryz.prog 44 #[.agg #[.slice P1 M1 C1], .agg #[.slice P2 M2 C2]] x fun e w' => e = .returned (.int .i64 (cmp3 A B)) ∧ Below x.heap.size x w' := by
  obtain ⟨xs, r1, n1, rfl⟩ := h1
  obtain ⟨ys, r2, n2, rfl⟩ := h2
  have := len_of r1.1 n1 hA
  exact Cmp_any _ _ xs ys x r1 r2 n1 n2 (by omega)
theorem Bx.of {x : World} {X : Nat} {v : Value} {t : TypeId} (h : Blk x X #[v] t) : Bx x X v := ⟨h.at 0, h.free 0, t, h⟩
end Go.Proofs.YtejfnplhimfchaaGreatDoor.Mo

namespace Go.Proofs.YtejfnplhimfchaaGreatDoor.Mo
open Go.RowKit Tn

/-- s[n:]. -/
theorem slice_l (g o len cap : Nat) (l : Int) (n : Nat) (el : l = n) (h2 : n ≤ len) (h3 : n < cap) (w : World) :
    (Instr.slice 46 (.slice (some ⟨g, o, none⟩) len cap) (some (.int .i64 l)) none none).run Tryz.prog w = .ok (.slice (some ⟨g, o + n, none⟩) (len - n) (cap - n)) w := by
  subst el
  rw [run_slice_l w 46 _ len cap (by rw [Tryz.elemU]; exact Tryz.underlying46) .i64 _ (by omega) (by omega), Tryz.elemU]
  have e2 : ¬ cap = n := by omega
  simp [Tryz.sizeOf75, Result.andThen, sliced, e2, Addr.add]
set_option maxHeartbeats 1600000 in
set_option maxRecDepth 100000 in
theorem cut_raw (b o l c n : Nat) (xs : List Int) (w : World) (hw : Wd xs) (hl : xs.length = l) (hc : l ≤ c) (hcm : c ≤ 9223372036854775807) (hn : 0 < n) (hnl : n < l) (hC : Cells w b o xs) :
    Calls Tryz.prog 93 #[.agg #[.slice (some ⟨b, o, none⟩) l c], .int .i64 n] w fun e w' => ∃ (p : Option Addr × Option Addr) (m q : Nat × Nat), e = .returned (.tuple #[.agg #[.slice p.1 m.1 q.1], .agg #[.slice p.2 m.2 q.2]]) ∧ (Nn w' p.1 m.1 q.1 (val (xs.take n)) ∧ Nn w' p.2 m.2 q.2 (val (xs.drop n))) ∧ Below w.heap.size w w' := by
  have K0 := ((Bx.new w (.slice (some ⟨b, o, none⟩) l c) 48).alloc (.cells #[.slice none 0 0] 48)).alloc (.cells #[.slice none 0 0] 48)
  have K1 := (Bx.new (w.alloc (.cells #[.slice (some ⟨b, o, none⟩) l c] 48)) (.slice none 0 0) 48).alloc (.cells #[.slice none 0 0] 48)
  have K2 := Bx.new ((w.alloc (.cells #[.slice (some ⟨b, o, none⟩) l c] 48)).alloc (.cells #[.slice none 0 0] 48)) (.slice none 0 0) 48
  have pr : Below w.heap.size w (((w.alloc (.cells #[.slice (some ⟨b, o, none⟩) l c] 48)).alloc (.cells #[.slice none 0 0] 48)).alloc (.cells #[.slice none 0 0] 48)) := (((Below.refl _ _).alloc (Nat.le_refl _) _).alloc (by simp) _).alloc (by simp; omega) _
  simp only [World.size_alloc] at K1 K2
  have T1 : ∀ x, Below w.heap.size w x → Calls Tryz.prog 68 #[.slice (some ⟨b, o, none⟩) n c] x fun e w' => ∃ a l q, e = .returned (.agg #[.slice a l q]) ∧ Nn w' a l q (val (xs.take n)) ∧ Below x.heap.size x w' := fun x bx => by
    have e1 : (xs.take n).length = n := by rw [List.length_take]; omega
    refine (trim_rd (some ⟨b, o, none⟩) n c (xs.take n) x e1.symm (hw.take n) (by omega) hcm (fun _ => ⟨b, o, rfl, (hC.take n).grow bx⟩)).mono ?_
    rintro e w' ⟨k, zs, rfl, _, hr, hnm, hv, hb⟩
    exact ⟨_, _, _, rfl, ⟨zs, hr, hnm, hv⟩, hb⟩
  have T2 : ∀ x, Below w.heap.size w x → Calls Tryz.prog 68 #[.slice (some ⟨b, o + n, none⟩) (l - n) (c - n)] x fun e w' => ∃ a l q, e = .returned (.agg #[.slice a l q]) ∧ Nn w' a l q (val (xs.drop n)) ∧ Below x.heap.size x w' := fun x bx => by
    have e1 : (xs.drop n).length = l - n := by rw [List.length_drop]; omega
    refine (trim_rd (some ⟨b, o + n, none⟩) (l - n) (c - n) (xs.drop n) x e1.symm (hw.drop n) (by omega) (by omega) (fun _ => ⟨b, o + n, rfl, (hC.drop n).grow bx⟩)).mono ?_
    rintro e w' ⟨k, zs, rfl, _, hr, hnm, hv, hb⟩
    exact ⟨_, _, _, rfl, ⟨zs, hr, hnm, hv⟩, hb⟩
  have s1 := slice_h b o l c (n : Int) n rfl (by omega)
  have s2 := slice_l b o l c (n : Int) n rfl (by omega) (by omega)
  generalize val (xs.take n) = V1 at *
  generalize val (xs.drop n) = V2 at *
  clear hC hw hl
  go_enter Tryz.func93, Tryz.ntmps93
  go_wp2_with fail
  generalize ((w.alloc (.cells #[.slice (some ⟨b, o, none⟩) l c] 48)).alloc (.cells #[.slice none 0 0] 48)).alloc (.cells #[.slice none 0 0] 48) = W at *
  have k0 := K0.1
  have hn1 : w.heap.size ≠ w.heap.size + 1 + 1 := by omega
  have hn2 : w.heap.size + 1 + 1 ≠ w.heap.size := by omega
  go_region_held3 (fun x => x.cell? ⟨w.heap.size, 0, none⟩ = some (.slice (some ⟨b, o, none⟩) l c)) (go_keep) (first
    | (go_at_call 68; (have z := d1); refine (T2 _ (bel' pr d1)).mono ?_; rintro e w2 ⟨p2, m2, q2, rfl, n2, d2'⟩; have d2 := bel' d1 d2'; have n1 := n1.grow d2'; have i0 := (K0.below d2).1; have K12 := K1.below d2; have K22 := K2.below d2; have y1 := K12.1; have y2 := K12.2; have z1 := K22.1; have z2 := K22.2)
    | (go_at_call 68; refine (T1 _ pr.drew).mono ?_; rintro e w1 ⟨p1, m1, q1, rfl, n1, d1⟩; have d1 := undrew d1; have i0 := (K0.below d1).1)
    | fail)
  have K13 := K12.set (.slice p1 m1 q1)
  have K23 := K22.wr ((Wr.refl (w.heap.size + 1) 0 1 w2).setCell 0 (by omega) (.slice p1 m1 q1)) (by omega)
  have u1 := (n1.box (u := .slice p1 m1 q1) K12).box (u := .slice p2 m2 q2) K23
  have u2 := (n2.box (u := .slice p1 m1 q1) K12).box (u := .slice p2 m2 q2) K23
  have K24 := K23.set (.slice p2 m2 q2)
  have K14 := K13.wr ((Wr.refl (w.heap.size + 1 + 1) 0 1 (w2.setCell ⟨w.heap.size + 1, 0, none⟩ (.slice p1 m1 q1))).setCell 0 (by omega) (.slice p2 m2 q2)) (by omega)
  have BE := below_put (below_put (bel' pr d2) (show w.heap.size ≤ w.heap.size + 1 by omega) (.slice p1 m1 q1)) (show w.heap.size ≤ w.heap.size + 1 + 1 by omega) (.slice p2 m2 q2)
  go_wp2_with fail
  generalize (w2.setCell ⟨w.heap.size + 1, 0, none⟩ (.slice p1 m1 q1)).setCell ⟨w.heap.size + 1 + 1, 0, none⟩ (.slice p2 m2 q2) = WE at *
  have g1 := K14.1
  have g2 := K24.1
  exact bodyPost_ret (v := .tuple #[.agg #[.slice p1 m1 q1], .agg #[.slice p2 m2 q2]]) (by simp [results, Tryz.results93, go_sem, g1, g2]) rfl ⟨(p1, p2), (m1, m2), (q1, q2), rfl, ⟨u1, u2⟩, BE⟩
/-- cut, by numbers. -/
theorem cut_n {a : Option Addr} {l c : Nat} {A : Int} {w : World} (h : Nn w a l c A) (n : Nat) (hn : 0 < n) (hnl : n < l) :
    Calls Tryz.prog 93 #[.agg #[.slice a l c], .int .i64 n] w fun e w' => ∃ (p : Option Addr × Option Addr) (m q : Nat × Nat), e = .returned (.tuple #[.agg #[.slice p.1 m.1 q.1], .agg #[.slice p.2 m.2 q.2]]) ∧ (Nn w' p.1 m.1 q.1 (A % pw n) ∧ Nn w' p.2 m.2 q.2 (A / pw n)) ∧ Below w.heap.size w w' := by
  obtain ⟨xs, ⟨h1, a', c', e, h2, h3, h5⟩, hn', hv⟩ := h
  obtain ⟨rfl, rfl, rfl⟩ : a = a' ∧ l = xs.length ∧ c = c' := by injection e with e1 e2 e3; exact ⟨e1, e2, e3⟩
  obtain ⟨b, o, rfl, cc⟩ := h5 (by omega)
  have sp := val_split xs n (by omega)
  have lt := val_lt (h1.take n)
  have ge := val_nonneg (h1.take n)
  have e1 : (xs.take n).length = n := by rw [List.length_take]; omega
  rw [e1] at lt
  have pp := pw_pos n
  have m1 : A % pw n = val (xs.take n) := by rw [← hv, sp, Int.add_mul_emod_self_left]; exact Int.emod_eq_of_lt ge lt
  have m2 : A / pw n = val (xs.drop n) := by
    rw [← hv, sp, Int.add_mul_ediv_left _ _ (by omega), Int.ediv_eq_zero_of_lt ge lt]
    simp
  rw [m1, m2]
  exact cut_raw b o _ c n xs w h1 rfl h2 h3 hn hnl cc
end Go.Proofs.YtejfnplhimfchaaGreatDoor.Mo
