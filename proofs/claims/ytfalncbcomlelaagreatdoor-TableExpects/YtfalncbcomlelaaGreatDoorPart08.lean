import Derived.Test.YtfalncbcomlelaaGreatDoorPart02
import Derived.Laws.AppendOwn
import Derived.OwnWalk
import Derived.Laws.MakeOwn
import Derived.Deep.RegionHeld3
import Derived.Test.YtfalncbcomlelaaGreatDoorPart04
import Derived.Laws.IdiomCopy
import Derived.Laws.CopyRow
import Derived.Test.YtfalncbcomlelaaGreatDoorProg
import Derived.Laws.Strings
import Derived.Laws.Concat
import Derived.WalkKit
import Derived.Test.YtfalncbcomlelaaGreatDoorPart01

namespace Go.Proofs.YtfalncbcomlelaaGreatDoor.Ta
open Go.RowKit Go.Proofs.YtfalncbcomlelaaGreatDoor.L Dc
open Go.Proofs.YtfalncbcomlelaaGreatDoor.Mo (Ri wrapI)

set_option maxRecDepth 100000 in
set_option maxHeartbeats 3200000 in
theorem RCheck_any (s : ByteArray) (f : Int) (vr vs : Value) (rs : List Int) (sel : List (List Int)) (w : World) (hs : s.size ≤ 140737488351232) (hr : Rx w vr rs) (hsel : Rr w vs sel) :
    Calls Tryz.prog 87 #[.agg #[.string s, .int .i64 f, vr, vs]] w fun e w' => e = .returned (.int .i64 (chk s f rs sel)) ∧ Below w.heap.size w w' := by
  have Nm := fun W => Name_any s W hs
  have al : ∀ (c : Array Value) (t : TypeId), Below w.heap.size w (w.alloc (.cells c t)) := fun c t => (Below.refl _ _).alloc (Nat.le_refl _) _
  rcases hn : nmB s with _ | _
  · have R : Hid (chk s f rs sel = 2) := chk_2 hn
    rw [hn] at Nm
    go_enter Tryz.func87, Tryz.ntmps87
    go_wp2_with (go_at_call 120; refine (Nm _).mono ?_; rintro e w' ⟨rfl, rfl⟩)
    go_ret
    exact ⟨by rw [R.out]; rfl, al _ _⟩
  · rw [hn] at Nm
    have hr' := hr
    obtain ⟨_, ⟨ar, cr, rfl, _⟩, hL⟩ := hr'
    by_cases h2 : 0 ≤ f ∧ f ≤ 130 ∧ 0 < rs.length ∧ f + rs.length ≤ 131
    · have y1 : decide (f < 0) = false := decide_eq_false (by omega)
      have y2 : decide (130 < f) = false := decide_eq_false (by omega)
      have y3 : decide ((rs.length : Int) < 1) = false := decide_eq_false (by omega)
      obtain ⟨M, hM⟩ : ∃ M : Int, 131 - f = M := ⟨_, rfl⟩
      have x2 : IntKind.i64.wrap (131 - f) = M := by rw [← hM]; exact wrapI _ (by omega) (by omega)
      have y4 : decide (M < (rs.length : Int)) = false := decide_eq_false (by omega)
      have Rw := fun W H => row_any (.slice ar rs.length cr) rs W H
      obtain ⟨hLs, az, cs, rfl, g⟩ := hsel
      rcases hw : rwB rs with _ | _
      · have R : Hid (chk s f rs sel = 90) := chk_90 hn h2 (by rw [hw]; rfl)
        rw [hw] at Rw
        clear hM h2 g
        go_enter Tryz.func87, Tryz.ntmps87
        go_wp2_with (first | (go_at_call 120; refine (Nm _).mono ?_; rintro e w' ⟨rfl, rfl⟩) | (go_at_call 121; refine (Rw _ (hr.grow (al _ _))).mono ?_; rintro e w' ⟨rfl, rfl⟩))
        go_ret
        exact ⟨by rw [R.out]; rfl, al _ _⟩
      · rw [hw] at Rw
        by_cases h3 : 10 < sel.length ∨ rs.length < sel.length
        · have R : Hid (chk s f rs sel = 90) := chk_90 hn h2 (by rw [selB_long h3]; simp)
          have h3' : (10 : Int) < (sel.length : Int) ∨ (¬ (10 : Int) < (sel.length : Int) ∧ (rs.length : Int) < (sel.length : Int)) := by omega
          clear hM h2 g h3
          rcases h3' with h3 | ⟨h3, h4⟩
          · go_enter Tryz.func87, Tryz.ntmps87
            go_wp2_with (first | (go_at_call 120; refine (Nm _).mono ?_; rintro e w' ⟨rfl, rfl⟩) | (go_at_call 121; refine (Rw _ (hr.grow (al _ _))).mono ?_; rintro e w' ⟨rfl, rfl⟩))
            go_ret
            exact ⟨by rw [R.out]; rfl, al _ _⟩
          · go_enter Tryz.func87, Tryz.ntmps87
            go_wp2_with (first | (go_at_call 120; refine (Nm _).mono ?_; rintro e w' ⟨rfl, rfl⟩) | (go_at_call 121; refine (Rw _ (hr.grow (al _ _))).mono ?_; rintro e w' ⟨rfl, rfl⟩))
            go_ret
            exact ⟨by rw [R.out]; rfl, al _ _⟩
        · have h3' : ¬ (10 : Int) < (sel.length : Int) := by omega
          have h4' : ¬ (rs.length : Int) < (sel.length : Int) := by omega
          have H2 : Hid (0 ≤ f ∧ f ≤ 130 ∧ 0 < rs.length ∧ f + rs.length ≤ 131) := h2
          clear hM h2
          go_enter Tryz.func87, Tryz.ntmps87
          go_wp2_with (first | (go_at_call 120; refine (Nm _).mono ?_; rintro e w' ⟨rfl, rfl⟩) | (go_at_call 121; refine (Rw _ (hr.grow (al _ _))).mono ?_; rintro e w' ⟨rfl, rfl⟩))
          go_loopw [3] (fun i wr => ∃ k : Nat, k ≤ sel.length ∧ i = .int .i64 k ∧ Hid (∀ d, d < k → (sel.getD d []).length + d = rs.length ∧ rwB (sel.getD d []) = true) ∧ Blk wr w.heap.size #[.string s, .int .i64 f, .slice ar rs.length cr, .slice az sel.length cs] 46 ∧ Below w.heap.size w wr) (fun i _ => sel.length - (intOf i).toNat)
          case atStart => exact ⟨0, Nat.zero_le _, rfl, fun j hj => absurd hj (by omega), Blk.new _ _ _, (Below.refl _ _).alloc (Nat.le_refl _) _⟩
          case round =>
            obtain ⟨k, hk, rfl, hd, hB, HB⟩ := hrel
            have q2 := hB.at 2
            have q3 := hB.at 3
            simp at q2 q3
            have hBl := hB.lt
            by_cases hlt : k < sel.length
            · obtain ⟨b, o, rfl, hc⟩ := g (by omega)
              obtain ⟨vd, c0, r1⟩ := hc k hlt
              have b1 : b < w.heap.size := lt_of_cell c0
              have c1 : wr.cell? ⟨b, o + k, none⟩ = some vd := (HB.cell (p := ⟨b, o + k, none⟩) b1).trans c0
              have r2 : ∀ j, Rx (wr.drewN j) vd (sel.getD k []) := fun j => (r1.grow HB).grow (below_drewN (Below.refl _ _) j)
              obtain ⟨_, ⟨ad, cd, rfl, _⟩, hLd⟩ := r1
              have x0 : (0 : Int) ≤ (k : Int) := by omega
              have x1 : ((k : Int)).toNat = k := by omega
              obtain ⟨M', hM⟩ : ∃ M : Int, (rs.length : Int) - (k : Int) = M := ⟨_, rfl⟩
              have x2 : IntKind.i64.wrap ((rs.length : Int) - (k : Int)) = M' := by rw [← hM]; exact wrapI _ (by omega) (by omega)
              clear g hc c0
              by_cases hg : (sel.getD k []).length + k = rs.length
              · have y : (((sel.getD k []).length : Int) != M') = false := by rw [bne_eq_false_iff_eq]; omega
                have A := fun j => row_any _ (sel.getD k []) _ (r2 j)
                rcases hw' : rwB (sel.getD k []) with _ | _
                · have R : Hid (chk s f rs sel = 90) := chk_90 hn H2.out (by rw [selB_bad hlt (by rw [hw']; simp)]; simp)
                  rw [hw'] at A
                  clear hM r2
                  generalize (sel.getD k []).length = L at *
                  go_wp2_with fail
                  go_quiet ((go_at_call 121; exact Calls.quiet_of_same (A _)))
                  go_wp2
                  go_ret
                  exact ⟨by rw [R.out]; rfl, below_drewN HB _⟩
                · have N : Hid (∀ d, d < k + 1 → (sel.getD d []).length + d = rs.length ∧ rwB (sel.getD d []) = true) := fun j hjk => by
                    by_cases e : j = k
                    · subst e; exact ⟨hg, hw'⟩
                    · exact hd.out j (by omega)
                  rw [hw'] at A
                  clear hM r2
                  generalize (sel.getD k []).length = L at *
                  go_wp2_with fail
                  go_quiet ((go_at_call 121; exact Calls.quiet_of_same (A _)))
                  go_wp2
                  go_roundw
                  case rel => exact ⟨k + 1, by omega, by go_num, N, hB, below_drewN HB _⟩
                  case measure => simp [intOf]; omega
              · have R : Hid (chk s f rs sel = 90) := chk_90 hn H2.out (by rw [selB_bad hlt (fun h => hg h.1)]; simp)
                have y : (((sel.getD k []).length : Int) != M') = true := by rw [bne_iff_ne]; omega
                clear hM r2 hg
                generalize (sel.getD k []).length = L at *
                go_wp2_with fail
                go_quiet (fail)
                go_wp2
                go_ret
                exact ⟨by rw [R.out]; rfl, below_drewN HB _⟩
            · have R : Hid (chk s f rs sel = 0) := chk_0 hn H2.out (by rw [hw, selB_all (by omega) (by omega) (fun i hi => hd.out i (by omega))]; rfl)
              clear g
              go_wp2
              go_ret
              exact ⟨by rw [R.out]; rfl, HB⟩
    · have R : Hid (chk s f rs sel = 8) := chk_8 hn h2
      rcases (show f < 0 ∨ (¬ f < 0 ∧ 130 < f) ∨ (¬ f < 0 ∧ ¬ 130 < f ∧ (rs.length : Int) < 1) ∨ (¬ f < 0 ∧ ¬ 130 < f ∧ ¬ (rs.length : Int) < 1 ∧ 131 - f < (rs.length : Int)) by omega) with y1 | ⟨y1, y2⟩ | ⟨y1, y2, y3⟩ | ⟨y1, y2, y3, y4⟩
      · have y1 : decide (f < 0) = true := decide_eq_true y1
        clear h2
        go_enter Tryz.func87, Tryz.ntmps87
        go_wp2_with (go_at_call 120; refine (Nm _).mono ?_; rintro e w' ⟨rfl, rfl⟩)
        go_ret
        exact ⟨by rw [R.out]; rfl, al _ _⟩
      · have y1 : decide (f < 0) = false := decide_eq_false y1
        have y2 : decide (130 < f) = true := decide_eq_true y2
        clear h2
        go_enter Tryz.func87, Tryz.ntmps87
        go_wp2_with (go_at_call 120; refine (Nm _).mono ?_; rintro e w' ⟨rfl, rfl⟩)
        go_ret
        exact ⟨by rw [R.out]; rfl, al _ _⟩
      · have y1 : decide (f < 0) = false := decide_eq_false y1
        have y2 : decide (130 < f) = false := decide_eq_false y2
        have y3 : decide ((rs.length : Int) < 1) = true := decide_eq_true y3
        clear h2
        go_enter Tryz.func87, Tryz.ntmps87
        go_wp2_with (go_at_call 120; refine (Nm _).mono ?_; rintro e w' ⟨rfl, rfl⟩)
        go_ret
        exact ⟨by rw [R.out]; rfl, al _ _⟩
      · obtain ⟨M, hM⟩ : ∃ M : Int, 131 - f = M := ⟨_, rfl⟩
        have x2 : IntKind.i64.wrap (131 - f) = M := by rw [← hM]; exact wrapI _ (by omega) (by omega)
        have y4 : decide (M < (rs.length : Int)) = true := decide_eq_true (by omega)
        have y1 : decide (f < 0) = false := decide_eq_false y1
        have y2 : decide (130 < f) = false := decide_eq_false y2
        have y3 : decide ((rs.length : Int) < 1) = false := decide_eq_false y3
        clear h2 hM
        go_enter Tryz.func87, Tryz.ntmps87
        go_wp2_with (go_at_call 120; refine (Nm _).mono ?_; rintro e w' ⟨rfl, rfl⟩)
        go_ret
        exact ⟨by rw [R.out]; rfl, al _ _⟩
end Go.Proofs.YtfalncbcomlelaaGreatDoor.Ta

namespace Go.Proofs.YtfalncbcomlelaaGreatDoor.Ta
open Go.RowKit Go.Proofs.YtfalncbcomlelaaGreatDoor.L Dc
open Go.Proofs.YtfalncbcomlelaaGreatDoor.Mo (Ri wrapI)

end Go.Proofs.YtfalncbcomlelaaGreatDoor.Ta

namespace Go.Proofs.YtfalncbcomlelaaGreatDoor.Ta
open Go.RowKit Go.Proofs.YtfalncbcomlelaaGreatDoor.L Dc
open Go.Proofs.YtfalncbcomlelaaGreatDoor.Mo (Ri wrapI)

theorem info_parts {P : Program} {t : TypeId} {z : Value} {s b : Nat} (h : (P.info? t).map (fun i => (i.zero, i.size, i.bytes)) = some (some z, s, b)) : ∃ i, P.info? t = some i ∧ i.zero = some z ∧ i.size = s ∧ i.bytes = b := by
  obtain ⟨i, h1, h2⟩ := Option.map_eq_some_iff.1 h
  simp only [Prod.mk.injEq] at h2
  exact ⟨i, h1, h2.1, h2.2.1, h2.2.2⟩
/-- A row of ints that lies in a block of its own. -/
def Oi (w : World) (g cap : Nat) (xs : List Int) : Prop :=
  (∀ i, -9223372036854775808 ≤ L.nth xs i ∧ L.nth xs i ≤ 9223372036854775807) ∧ xs.length * 8 ≤ 140737488351232 ∧ xs.length ≤ cap ∧ cap ≤ maxLen ∧
  ∃ cur : Array Value, w.heap[g]? = some (.cells cur 3 (0, 0)) ∧ cur.size = cap ∧ cur.toList.take xs.length = xs.map (Value.int .i64)
theorem Oi.lt {w : World} {g cap : Nat} {xs : List Int} (h : Oi w g cap xs) : g < w.heap.size := by
  obtain ⟨_, _, _, _, cur, e, _⟩ := h
  exact Own.lt ⟨cur, _, e⟩
theorem Oi.keep {w w' : World} {g cap : Nat} {xs : List Int} (h : Oi w g cap xs) (e : w'.heap[g]? = w.heap[g]?) : Oi w' g cap xs := by
  obtain ⟨h1, h2, h3, h4, cur, h5, h6⟩ := h
  exact ⟨h1, h2, h3, h4, cur, e.trans h5, h6⟩
theorem Oi.grow {w w' : World} {g cap : Nat} {xs : List Int} (h : Oi w g cap xs) (k : Below w.heap.size w w') : Oi w' g cap xs := h.keep (k.block g h.lt)
theorem Oi.ne {w : World} {g cap n : Nat} {xs : List Int} {c : Array Value} {t : TypeId} (h : Oi w g cap xs) (k : Blk w n c t) (ht : t ≠ 3) : g ≠ n := by
  rintro rfl
  obtain ⟨_, _, _, _, cur, e, _⟩ := h
  have k' : w.heap[g]? = some (.cells c t (0, 0)) := k
  rw [e] at k'
  simp at k'
  exact ht k'.2.symm
theorem Oi.skip {w : World} {g cap n : Nat} {xs : List Int} (h : Oi w g cap xs) (ne : g ≠ n) (i : Nat) (v : Value) : Oi (w.setCell ⟨n, i, none⟩ v) g cap xs := h.keep (Below.heap_setCell _ _ _ _ ne)
theorem Oi.rx {w : World} {g cap : Nat} {xs : List Int} (h : Oi w g cap xs) : Rx w (.slice (some ⟨g, 0, none⟩) xs.length cap) xs := by
  obtain ⟨h1, h2, h3, h4, cur, h5, h6, h7⟩ := h
  refine ⟨⟨h1, _, cap, rfl, h3, h4, fun _ => ⟨g, 0, rfl, fun i hi => ?_⟩⟩, ⟨_, cap, rfl, fun e => by cases e⟩, h2⟩
  have e := congrArg (fun l : List Value => l[i]?) h7
  simp only [List.getElem?_take, hi, if_true, List.getElem?_map] at e
  simp only [World.cell?, h5, Nat.zero_add, Option.isSome_none, Bool.false_eq_true, if_false]
  rw [Array.getElem?_toList] at e
  rw [e]
  simp [L.nth, List.getD_eq_getElem?_getD, List.getElem?_eq_getElem hi]

theorem bput {w : World} {n : Nat} {c : Array Value} {t : TypeId} (h : Blk w n c t) (i : Nat) (v : Value) : Blk (w.setCell ⟨n, i, none⟩ v) n (c.setIfInBounds i v) t := by
  have h' : w.heap[n]? = some (.cells c t (0, 0)) := h
  show (w.setCell ⟨n, i, none⟩ v).heap[n]? = _
  simp [World.setCell, Array.getElem?_modify, h']
theorem bskip {w : World} {n b : Nat} {c : Array Value} {t : TypeId} (h : Blk w n c t) (hb : b ≠ n) (i : Nat) (v : Value) : Blk (w.setCell ⟨b, i, none⟩ v) n c t := by
  have h' : w.heap[n]? = some (.cells c t (0, 0)) := h
  show (w.setCell ⟨b, i, none⟩ v).heap[n]? = _
  simp [World.setCell, Array.getElem?_modify, h', hb]
end Go.Proofs.YtfalncbcomlelaaGreatDoor.Ta

namespace Go.Proofs.YtfalncbcomlelaaGreatDoor.Ta
open Go.RowKit

/-- make([]int, n). -/
theorem make_ints {w : World} {ops : Array Oper} {rest : List Oper} {o : Oper} {a : Act} {Q : Exit → Act → World → Prop} (hg : o.guard = none) (l c : Operand) (hop : o.op = Op.makeSlice 43 l c)
    (n : Nat) (L C : Int) (hl : a.eval l = .int .i64 L) (hc : a.eval c = .int .i64 C) (hL : L = (n : Int)) (hC : C = (n : Int)) (hn : n ≤ 4096)
    (hK : ∀ cs : Array Value, cs.size = n → wpList Tryz.prog ops Q rest (a.put o.dst (.slice (some ⟨w.heap.size, 0, none⟩) n n)) (w.alloc (.cells cs 3))) : wpList Tryz.prog ops Q (o :: rest) a w := by
  obtain ⟨i, hi, hz0, hz1, hz2⟩ := info_parts (show (Tryz.prog.info? 3).map (fun i => (i.zero, i.size, i.bytes)) = some (some (.int .i64 0), 1, 8) by kernel_rfl)
  subst hL hC
  refine wpList_plain hg fun K hK' => ?_
  have hr := run_make (P := Tryz.prog) w 43 3 i _ (by kernel_rfl) hi hz0 .i64 .i64 n n (by omega) (Int.le_refl _) (by rw [hz2]; omega) (by omega)
  rw [hz1] at hr
  simp only [Int.toNat_natCast, Nat.mul_one] at hr
  unfold Oper.wp
  simp [execOp, hop, hl, hc, hr, Result.andThen]
  exact hK' _ _ (hK _ (by simp [size_madeCells]))
/-- Those up to k are told. -/
def Rc (x : World) (g n k : Nat) (q : Nat → Int) : Prop := ∃ cs : Array Value, Blk x g cs 3 ∧ cs.size = n ∧ ∀ i, i < k → cs[i]? = some (.int .i64 (q i))
theorem Rc.push {x : World} {g n k : Nat} {q : Nat → Int} (h : Rc x g n k q) (hk : k < n) : Rc (x.setCell ⟨g, k, none⟩ (.int .i64 (q k))) g n (k + 1) q := by
  obtain ⟨cs, K, e, f⟩ := h
  refine ⟨_, bput K k _, by simp [e], fun i hi => ?_⟩
  rw [Array.getElem?_setIfInBounds]
  by_cases c : k = i
  · subst c; rw [if_pos rfl, if_pos (by omega)]
  · rw [if_neg c]; exact f i (by omega)
theorem Rc.drew {x : World} {g n k : Nat} {q : Nat → Int} (h : Rc x g n k q) : Rc x.drew g n k q := h
theorem keepc {W x : World} {n b i : Nat} {v : Value} (d : Below n W x) (hb : b < n) (h : W.cell? ⟨b, i, none⟩ = some v) : x.cell? ⟨b, i, none⟩ = some v := (d.cell (p := ⟨b, i, none⟩) hb).trans h
theorem lives {w : World} {v : Value} {xs : List Int} (h : Rx w v xs) {i : Nat} (hi : i < xs.length) : ∃ b o c, v = .slice (some ⟨b, o, none⟩) xs.length c ∧ w.cell? ⟨b, o + i, none⟩ = some (.int .i64 (L.nth xs i)) ∧ b < w.heap.size := by
  obtain ⟨⟨_, a, cap, e, _, _, f⟩, _⟩ := h
  obtain ⟨b, o, rfl, hc⟩ := f (by omega)
  have := hc i hi
  exact ⟨b, o, cap, e, this, L.lt_of_cell this⟩
end Go.Proofs.YtfalncbcomlelaaGreatDoor.Ta

namespace Go.Proofs.YtfalncbcomlelaaGreatDoor
open Go.RowKit Tn

/-- copy of words, as its run. -/
theorem run_copy_words {w : World} (ty : TypeId) (X Y : List Int) (g off dCap : Nat) (sp : Option Addr) (sLen sCap dLen : Nat) (eX : dLen = X.length) (eY : sLen = Y.length)
    (hle : Y.length ≤ X.length) (hX : Cells w g off X) (hO : Own w g) (hY : 0 < Y.length → ∃ b o, sp = some ⟨b, o, none⟩ ∧ Cells w b o Y) :
    ∃ w', (Builtin.copy_ #[54, 54] ty #[.slice (some ⟨g, off, none⟩) dLen dCap, .slice sp sLen sCap]).run Tryz.prog w = .ok (goInt Y.length) w' ∧ Cells w' g off (Y ++ X.drop Y.length) ∧ Wr g off X.length w w' := by
  subst eX eY
  by_cases h0 : Y.length = 0
  · obtain rfl : Y = [] := List.eq_nil_of_length_eq_zero h0
    exact ⟨w, run_copy_none w _ _ ty 95 _ _ _ _ _ _ Tryz.underlying54 Tryz.sizeU (by simp), by simpa using hX, Wr.refl _ _ _ _⟩
  · obtain ⟨b2, o2, rfl, hcY⟩ := hY (by omega)
    obtain ⟨cur, t, hh⟩ := hO
    have hsz : off + X.length ≤ cur.size := by
      have h1 := hX (X.length - 1) (by omega)
      simp only [World.cell?, hh, Option.isSome_none, Bool.false_eq_true, if_false] at h1
      have := (Array.getElem?_eq_some_iff.1 h1).1
      omega
    have hY' : (Y.map (Value.int .u64)).length = Y.length := List.length_map ..
    have hrun := run_copy_row (P := Tryz.prog) w 54 54 ty 95 g off X.length dCap ⟨b2, o2, none⟩ Y.length sCap cur t (Y.map (Value.int .u64)) Tryz.underlying54 Tryz.sizeU hh (by rw [List.length_map]; exact (Nat.min_eq_left hle).symm) (by
        intro j v hj
        rw [List.getElem?_map] at hj
        by_cases hlt : j < Y.length
        · rw [List.getElem?_eq_getElem hlt] at hj
          have := hcY j hlt
          simp only [nth, List.getD_eq_getElem?_getD, List.getElem?_eq_getElem hlt, Option.getD_some] at this
          simp only [Option.map_some, Option.some.injEq] at hj
          subst hj
          rw [show (⟨b2, o2, none⟩ : Addr).add j = ⟨b2, o2 + j, none⟩ from by simp [Addr.add]]
          exact this
        · rw [List.getElem?_eq_none (Nat.le_of_not_lt hlt)] at hj; simp at hj
      ) (by rw [List.length_map]; omega) (by intro v hv; obtain ⟨x, _, rfl⟩ := List.mem_map.1 hv; rfl)
    rw [hY', List.append_assoc] at hrun
    refine ⟨_, hrun, ?_, ?_⟩
    all_goals clear hrun
    · intro i hi
      rw [List.length_append, List.length_drop] at hi
      rw [cell_setRow w g cur _ t _ hh]
      have hoff : (cur.toList.take off).length = off := by rw [List.length_take]; simp; omega
      rw [List.getElem?_toArray, List.getElem?_append_right (by omega), hoff, Nat.add_sub_cancel_left]
      by_cases hlt : i < Y.length
      · rw [List.getElem?_append_left (by rw [hY']; exact hlt), List.getElem?_map, List.getElem?_eq_getElem hlt]
        simp [nth, List.getD_eq_getElem?_getD, List.getElem?_append_left hlt, List.getElem?_eq_getElem hlt]
      · rw [List.getElem?_append_right (by omega), hY', List.getElem?_drop]
        have h1 := hX i (by omega)
        simp only [World.cell?, hh, Option.isSome_none, Bool.false_eq_true, if_false] at h1
        have e : off + Y.length + (i - Y.length) = off + i := by omega
        rw [e, Array.getElem?_toList, h1]
        have e2 : nth (Y ++ X.drop Y.length) i = nth X i := by
          unfold nth
          rw [List.getD_eq_getElem?_getD, List.getElem?_append_right (by omega), List.getElem?_drop, List.getD_eq_getElem?_getD]
          congr 2; omega
        rw [e2]
    · refine ⟨rfl, rfl, rfl, by simp [World.setRow], fun k _ hk => setRow_other w g k _ hk, ?_, ?_, ?_⟩
      · intro i hi
        rw [cell_setRow w g cur _ t _ hh]
        have hoff : (cur.toList.take off).length = off := by rw [List.length_take]; simp; omega
        simp only [World.cell?, hh, Option.isSome_none, Bool.false_eq_true, if_false]
        rw [List.getElem?_toArray]
        rcases hi with hi | hi
        · rw [List.getElem?_append_left (by omega), List.getElem?_take_of_lt (by omega), Array.getElem?_toList]
        · rw [List.getElem?_append_right (by omega), hoff, List.getElem?_append_right (by omega), hY', List.getElem?_drop, Array.getElem?_toList]
          congr 1; omega
      · intro i
        simp [World.frozen?, setRow_at w g cur _ t _ hh, hh]
      · intro c t' f e
        rw [hh] at e
        simp only [Option.some.injEq, Obj.cells.injEq] at e
        obtain ⟨rfl, rfl, rfl⟩ := e
        refine ⟨_, setRow_at w g cur _ t _ hh, ?_⟩
        simp; omega
end Go.Proofs.YtfalncbcomlelaaGreatDoor

namespace Go.Proofs.YtfalncbcomlelaaGreatDoor.Mo
open Go.RowKit

/-- A row of bytes as a string. -/
def sB (l : List UInt8) : ByteArray := ⟨l.toArray⟩
theorem sB_size (l : List UInt8) : (sB l).size = l.length := by simp [sB, ByteArray.size]
theorem sB_add (a b : List UInt8) : sB a ++ sB b = sB (a ++ b) := by
  apply ByteArray.ext
  simp [sB]
/-- With its sign. -/
def sg (g : Bool) (l : List UInt8) : List UInt8 := (if g then [45] else []) ++ l
set_option maxRecDepth 100000 in
theorem WSign_any (g : Bool) (l : List UInt8) (w : World) (hl : l.length ≤ 8388608) :
    Calls Tryz.prog 105 #[.bool g, .string (sB l)] w fun e w' => e = .returned (.string (sB (sg g l))) ∧ w' = w := by
  have h1 : Hid ((⟨#[45]⟩ : ByteArray) ++ sB l = sB ([45] ++ l)) := sB_add [45] l
  have h2 := run_string_add_sum (P := Tryz.prog) w ⟨#[45]⟩ (sB l) (by rw [sB_size]; simp [ByteArray.size]; omega)
  rw [h1.out] at h2
  cases g
  · go_enter Tryz.func105, Tryz.ntmps105
    go_wp2
    go_ret
    exact ⟨rfl, rfl⟩
  · go_enter Tryz.func105, Tryz.ntmps105
    go_wp2
    go_ret
    exact ⟨rfl, rfl⟩
end Go.Proofs.YtfalncbcomlelaaGreatDoor.Mo

namespace Go.Proofs.YtfalncbcomlelaaGreatDoor.Wt
open Go.RowKit Tn

/-- The byte of a group's digit: the i-th of nineteen. -/
def gd (G i : Nat) : Int := 48 + ((G / 10 ^ (18 - i) % 10 : Nat) : Int)
/-- n cells of block b from o on hold the bytes f. -/
def Cb (w : World) (b o n : Nat) (f : Nat → Int) : Prop := ∀ i, i < n → w.cell? ⟨b, o + i, none⟩ = some (.int .u8 (f i))
theorem wrapI (x : Int) (h0 : -9223372036854775808 ≤ x) (h1 : x < 9223372036854775808) : IntKind.i64.wrap x = x := by
  simp [IntKind.wrap, IntKind.bits, IntKind.signed]; omega
theorem wrapU (x : Int) (h0 : 0 ≤ x) (h1 : x < 18446744073709551616) : IntKind.u64.wrap x = x := by
  simp [IntKind.wrap, IntKind.bits, IntKind.signed]; omega
theorem wrapB (x : Int) (h0 : 0 ≤ x) (h1 : x < 256) : IntKind.u8.wrap x = x := by
  simp [IntKind.wrap, IntKind.bits, IntKind.signed]; omega

set_option maxRecDepth 100000 in
set_option maxHeartbeats 1600000 in
theorem putGroup_any (b o n c G : Nat) (w : World) (hG : G < 18446744073709551616) (hn : 19 ≤ n) (hnm : n ≤ 1099511627776) (g : Nat → Int) (hc : Cb w b o 19 g) (hF : Free w b o 19) :
    Calls Tryz.prog 158 #[.slice (some ⟨b, o, none⟩) n c, .int .u64 G] w fun e w' => e = .returned (.tuple #[]) ∧ Cb w' b o 19 (gd G) ∧ Wr b o 19 w w' := by
  go_enter Tryz.func158, Tryz.ntmps158
  go_wp2_with fail
  go_loopw [1, 5] (fun t i wr => ∃ k : Nat, k ≤ 19 ∧ i = .int .i64 k ∧ t = .int .u64 ((G / 10 ^ k : Nat) : Int) ∧ Hid (∀ j, j < 19 → 19 - k ≤ j → wr.cell? ⟨b, o + j, none⟩ = some (.int .u8 (gd G j))) ∧ Hid (∀ j, j < 19 → ∃ v, wr.cell? ⟨b, o + j, none⟩ = some (.int .u8 v)) ∧ Wr b o 19 w wr) (fun _ i _ => 19 - (intOf i).toNat)
  case atStart => exact ⟨0, by omega, rfl, by simp, fun j h1 h2 => absurd h1 (by omega), fun j hj => ⟨_, hc j hj⟩, Wr.refl _ _ _ _⟩
  case round =>
    obtain ⟨k, hk, rfl, rfl, hd, he, hw⟩ := hrel
    by_cases hlt : k < 19
    · obtain ⟨Q, hQ⟩ : ∃ Q : Nat, G / 10 ^ k = Q := ⟨_, rfl⟩
      have hQ2 : G / 10 ^ (k + 1) = Q / 10 := by rw [Nat.pow_succ, ← Nat.div_div_eq_div_mul, hQ]
      have hQb : Q < 18446744073709551616 := by rw [← hQ]; exact Nat.lt_of_le_of_lt (Nat.div_le_self _ _) hG
      obtain ⟨D, hD⟩ : ∃ D : Nat, Q % 10 = D := ⟨_, rfl⟩
      have hDb : D < 10 := by omega
      obtain ⟨J, hJ⟩ : ∃ J : Nat, 18 - k = J := ⟨_, rfl⟩
      have eg : gd G J = 48 + (D : Int) := by unfold gd; rw [show 18 - J = k by omega, hQ, hD]
      obtain ⟨v, hv⟩ := he.out J (by omega)
      have fr : wr.frozen? ⟨b, o + J, none⟩ = false := (hw.froz _).trans (hF J (by omega))
      have x1 : IntKind.i64.wrap (18 - (k : Int)) = (J : Int) := by rw [show (18 : Int) - (k : Int) = (J : Int) by omega]; exact wrapI _ (by omega) (by omega)
      have x2 : Int.tmod (Q : Int) 10 = (D : Int) := by rw [← hD]; rfl
      have x3 : IntKind.u64.wrap (D : Int) = (D : Int) := wrapU _ (by omega) (by omega)
      have x4 : IntKind.u64.wrap (48 + (D : Int)) = 48 + (D : Int) := wrapU _ (by omega) (by omega)
      have x5 : IntKind.u8.wrap (48 + (D : Int)) = 48 + (D : Int) := wrapB _ (by omega) (by omega)
      have x6 : Int.tdiv (Q : Int) 10 = ((Q / 10 : Nat) : Int) := rfl
      have x7 : IntKind.u64.wrap ((Q / 10 : Nat) : Int) = ((Q / 10 : Nat) : Int) := wrapU _ (by omega) (by omega)
      have y1 : (0 : Int) ≤ (J : Int) := by omega
      have y2 : ((J : Int)).toNat = J := by omega
      have y3 : (J : Int) < (n : Int) := by omega
      have bl := hw.size
      have N1 : Hid (∀ j, j < 19 → 19 - (k + 1) ≤ j → (wr.setCell ⟨b, o + J, none⟩ (.int .u8 (48 + (D : Int)))).cell? ⟨b, o + j, none⟩ = some (.int .u8 (gd G j))) := fun j h1 h2 => by
        by_cases e : j = J
        · subst e
          rw [eg]
          exact World.cell?_setCell_same _ _ _ hv
        · rw [World.cell?_setCell_other _ _ _ _ (by simp)]
          exact hd.out j h1 (by omega)
      have N2 : Hid (∀ j, j < 19 → ∃ v, (wr.setCell ⟨b, o + J, none⟩ (.int .u8 (48 + (D : Int)))).cell? ⟨b, o + j, none⟩ = some (.int .u8 v)) := fun j h1 => by
        by_cases e : j = J
        · subst e
          exact ⟨_, World.cell?_setCell_same _ _ _ hv⟩
        · rw [World.cell?_setCell_other _ _ _ _ (by simp)]
          exact he.out j h1
      have N3 := hw.setCell (o + J) (by omega) (.int .u8 (48 + (D : Int)))
      rw [hQ]
      clear hQ hD hJ eg
      go_wp2
      go_roundw
      case rel => exact ⟨k + 1, by omega, by go_num, by rw [hQ2]; simp, N1, N2, N3⟩
      case measure => simp [intOf]; omega
    · go_wp2
      go_end0
      exact ⟨rfl, fun j hj => hd.out j hj (by omega), hw⟩
end Go.Proofs.YtfalncbcomlelaaGreatDoor.Wt

namespace Go.Proofs.YtfalncbcomlelaaGreatDoor.Wt
open Go.RowKit Tn

theorem infoB : ∃ i, Tryz.prog.info? 5 = some i ∧ i.zero = some (.int .u8 0) ∧ i.size = 1 ∧ i.bytes = 1 := by
  have h : ((Tryz.prog.info? 5).map fun i => (i.zero, i.size, i.bytes)) = some (some (.int .u8 0), 1, 1) := by kernel_rfl
  obtain ⟨i, h1, h2⟩ := Option.map_eq_some_iff.1 h
  simp only [Prod.mk.injEq] at h2
  exact ⟨i, h1, h2.1, h2.2.1, h2.2.2⟩
theorem zc (m : Nat) : Builtin.zeroCells (Value.int .u8 0).cells m = (List.replicate m (Value.int .u8 0)).toArray := by
  apply Array.ext'
  simp only [Builtin.zeroCells, Value.cells]
  apply List.ext_getElem
  · simp
  · intro i h1 h2
    simp [Nat.mod_one]
/-- All that lies in a row's own block are bytes. -/
def U8 (w : World) (v : Value) : Prop := ∀ g, v.ownBlock = some g → ∀ j u, w.cell? ⟨g, j, none⟩ = some u → ∃ x, u = .int .u8 x
theorem u8_of {w : World} {g : Nat} {c : Array Value} {t : TypeId} (h : w.heap[g]? = some (.cells c t (0, 0))) (hu : ∀ u ∈ c.toList, ∃ x, u = Value.int .u8 x) {n cap : Nat} : U8 w (.slice (some ⟨g, 0, none⟩) n cap) := by
  intro g' e j u hj
  simp [Value.ownBlock] at e
  subst e
  simp only [World.cell?, h, Option.isSome_none, Bool.false_eq_true, if_false] at hj
  exact hu u (by rw [← Array.getElem?_toList] at hj; exact List.mem_of_getElem? hj)
/-- append(v, make([]byte, m)...), v nil or a row of one's own. -/
theorem run_zeros {w : World} (ty base : Nat) (v : Value) (n m : Nat) (xs : List Value) (hown : w.ownsRow base 5 1 v n xs) (hm : 0 < m) (hb : n + m ≤ 1099511627776) (hbase : base ≤ w.heap.size) (hU : U8 w v) (hxs : ∀ u ∈ xs, ∃ x, u = Value.int .u8 x) :
    ∃ v' w', (Builtin.append_ #[140, 3] ty #[v, .int .i64 m]).run Tryz.prog w = .ok v' w' ∧ w'.ownsRow base 5 1 v' (n + m) (xs ++ List.replicate m (.int .u8 0)) ∧ w.grownBy w' v.ownBlock ∧ (v'.ownBlock = v.ownBlock ∨ v'.ownBlock = some w.heap.size) ∧ U8 w' v' := by
  obtain ⟨i, hi, hz0, hz1, hz2⟩ := infoB
  have ht : Tryz.prog.underlying 140 = some (.slice 5) := by kernel_rfl
  have hti : Tryz.prog.underlying 3 = some (.int .i64) := by kernel_rfl
  have hw : IntKind.i64.wrap (m : Int) = (m : Int) := wrapI _ (by omega) (by omega)
  have hlen : (xs ++ List.replicate m (Value.int .u8 0)).length = (n + m) * 1 := by rw [List.length_append, hown.1, List.length_replicate]; omega
  have h0 : ¬ (m : Int) < 0 := by omega
  have h48 : ¬ (281474976710656 < (m : Int)) := by omega
  have hm0 : m ≠ 0 := by omega
  have h63 : n + m ≤ maxLen := by unfold maxLen; omega
  have rz : ∀ (k : Nat), ∀ u ∈ List.replicate k (Value.int .u8 0), ∃ x, u = Value.int .u8 x := fun k u hu => ⟨0, (List.mem_replicate.1 hu).2⟩
  have nu : ∀ {k : Nat}, ∀ u ∈ (xs.toArray ++ (List.replicate m (Value.int .u8 0)).toArray ++ (List.replicate k (Value.int .u8 0)).toArray).toList, ∃ x, u = Value.int .u8 x := fun {k} u hu => by
    simp only [Array.toList_append, List.mem_append] at hu
    rcases hu with (hu | hu) | hu
    · exact hxs u hu
    · exact rz _ u hu
    · exact rz _ u hu
  have grown : ∀ (old : Nat), ∀ (row : Option Nat),
      (w.drew.alloc (.cells (xs.toArray ++ (List.replicate m (Value.int .u8 0)).toArray ++ (List.replicate (grownCap w (n + m) old 5 - (n + m)) (Value.int .u8 0)).toArray) 5)).ownsRow base 5 1
        (.slice (some ⟨w.heap.size, 0, none⟩) (n + m) (grownCap w (n + m) old 5)) (n + m) (xs ++ List.replicate m (Value.int .u8 0)) ∧
      w.grownBy (w.drew.alloc (.cells (xs.toArray ++ (List.replicate m (Value.int .u8 0)).toArray ++ (List.replicate (grownCap w (n + m) old 5 - (n + m)) (Value.int .u8 0)).toArray) 5)) row := by
    intro old row
    have hge := grownCap_ge w (n + m) old 5
    have hcm : grownCap w (n + m) old 5 ≤ maxLen := grownCap_le_maxLen w (n + m) old 5 h63
    refine ⟨⟨hlen, .inr ⟨w.heap.size, _, _, rfl, hbase, heap_alloc_new w.drew _, hge, hcm, ?_, ?_⟩⟩, ⟨rfl, rfl, rfl, by simp, fun k hk _ => heap_alloc_old w.drew _ hk⟩⟩
    · simp only [Array.size_append, List.size_toArray, List.length_replicate, hown.1]
      omega
    · simp only [Array.toList_append, List.append_assoc]
      rw [← List.append_assoc, ← hlen]
      exact List.take_left
  rcases hown.2 with ⟨rfl, rfl⟩ | ⟨g, cap, cur, rfl, hbg, hg, hnc, hcm, hcs, htake⟩
  · have hx : xs = [] := List.eq_nil_of_length_eq_zero (by simpa using hown.1)
    subst hx
    have hgr := grown 0 (Value.ownBlock (.slice none 0 0))
    refine ⟨_, _, ?_, hgr.1, hgr.2, Or.inr rfl, u8_of (heap_alloc_new w.drew _) nu⟩
    have hn2 : ¬ (281474976710656 < Builtin.nextslicecap m 0) := by rw [nextslicecap_zero hm]; omega
    have h63' : ¬ (9223372036854775807 < (m : Int)) := by omega
    simp [Builtin.append_, run_underlying ht, run_underlying hti, sizeOf, typeInfo, zeroValue, hi, hz0, hz1, hz2, hw, h0, h48, hm0, hn2, h63', Question.forced, run_firstCells_none, newRow, grownCap, zc, asInt, asIntOf]
  · by_cases hroom : n + m ≤ cap
    · have hst := run_storeCells_at Tryz.prog g n 5 (List.replicate m (.int .u8 0)) 0 cur w hg (by rw [List.length_replicate, hcs]; omega) (by intro u hu; obtain ⟨_, rfl⟩ := List.mem_replicate.1 hu; rfl)
      simp only [Nat.add_zero] at hst
      refine ⟨.slice (some ⟨g, 0, none⟩) (n + m) cap, w.setRow g (List.take n cur.toList ++ List.replicate m (Value.int .u8 0) ++ List.drop (n + (List.replicate m (Value.int .u8 0)).length) cur.toList).toArray, ?_, ⟨hlen, .inr ⟨g, cap, _, rfl, hbg, setRow_heap w g cur _ 5 _ hg, hroom, hcm, ?_, ?_⟩⟩, ⟨rfl, rfl, rfl, by simp, fun k _ hk => setRow_other w g k _ (fun e => hk (by simp [Value.ownBlock, e]))⟩, Or.inl rfl, u8_of (setRow_heap w g cur _ 5 _ hg) ?_⟩
      · simp [Builtin.append_, run_underlying ht, run_underlying hti, sizeOf, typeInfo, zeroValue, hi, hz0, hz1, hz2, hw, h0, h48, hm0, hroom, zc, asInt, asIntOf, Addr.add_lit, hst]
      · simp only [List.size_toArray, List.length_append, List.length_take, List.length_drop, Array.length_toList, List.length_replicate]
        omega
      · rw [Nat.mul_one] at htake
        rw [htake, ← hlen]
        exact List.take_left
      · intro u hu
        have cu : ∀ u ∈ cur.toList, ∃ x, u = Value.int .u8 x := fun u hu => by
          obtain ⟨j, hj⟩ := List.getElem?_of_mem hu
          refine hU g rfl j u ?_
          simp only [World.cell?, hg, Option.isSome_none, Bool.false_eq_true, if_false]
          rw [← Array.getElem?_toList]
          exact hj
        simp only [List.mem_append] at hu
        rcases hu with (hu | hu) | hu
        · exact cu u (List.mem_of_mem_take hu)
        · exact rz _ u hu
        · exact cu u (List.mem_of_mem_drop hu)
    · have holds : ∀ j u, xs[j]? = some u → w.drew.cell? ((⟨g, 0, none⟩ : Addr).add j) = some u := fun j u h => by simpa using hown.cells (g := g) rfl j u h
      have hfo := run_firstCells_some (P := Tryz.prog) w.drew 1 n ⟨g, 0, none⟩ n cap xs hown.1 holds
      have hgr := grown cap (Value.ownBlock (.slice (some ⟨g, 0, none⟩) n cap))
      refine ⟨_, _, ?_, hgr.1, hgr.2, Or.inr rfl, u8_of (heap_alloc_new w.drew _) nu⟩
      have hn : ¬ (n + m ≤ cap) := hroom
      have hn2 : ¬ (281474976710656 < Builtin.nextslicecap (n + m) cap) := by have := growslice_fits (need := n + m) (old := cap) (bytes := 1) (by omega) (by omega); omega
      have h63' : ¬ (9223372036854775807 < ((n : Int) + (m : Int))) := by omega
      simp [Builtin.append_, run_underlying ht, run_underlying hti, sizeOf, typeInfo, zeroValue, hi, hz0, hz1, hz2, hw, h0, h48, hm0, hn, hn2, h63', Question.forced, hfo, newRow, grownCap, zc, asInt, asIntOf]
theorem wp_zeros {w : World} {o : Oper} {a : Act} {K : Act → World → Prop} {Q : Exit → Act → World → Prop} (s x : Operand)
    (ho : o.op = .call { callee := .builtin .append, args := #[s, x], argTypes := #[140, 3] })
    (base : Nat) (v : Value) (n m : Nat) (xs : List Value) (hs : a.eval s = v) (hx : a.eval x = .int .i64 m) (hown : w.ownsRow base 5 1 v n xs) (hm : 0 < m) (hb : n + m ≤ 1099511627776) (hbase : base ≤ w.heap.size) (hU : U8 w v) (hxs : ∀ u ∈ xs, ∃ x, u = Value.int .u8 x)
    (h : ∀ v' w', w'.ownsRow base 5 1 v' (n + m) (xs ++ List.replicate m (.int .u8 0)) → w.grownBy w' v.ownBlock → (v'.ownBlock = v.ownBlock ∨ v'.ownBlock = some w.heap.size) → U8 w' v' → K (a.put o.dst v') w') : o.wp Tryz.prog a w K Q := by
  obtain ⟨v', w', hr, h1, h2, h3, h4⟩ := run_zeros (w := w) o.type base v n m xs hown hm hb hbase hU hxs
  unfold Oper.wp execOp
  simp only [ho, resolve, invoke, builtin, Sem.run_bind, Sem.run_pure, Result.andThen_ok, List.map_toArray, List.map_cons, List.map_nil, hs, hx, hr]
  exact h v' w' h1 h2 h3 h4
theorem wpList_zeros {w : World} {ops : Array Oper} {rest : List Oper} {o : Oper} {a : Act} {Q : Exit → Act → World → Prop} (hgd : o.guard = none) (s x : Operand)
    (ho : o.op = .call { callee := .builtin .append, args := #[s, x], argTypes := #[140, 3] })
    (base : Nat) (v : Value) (n m : Nat) (xs : List Value) (hs : a.eval s = v) (hx : a.eval x = .int .i64 m) (hown : w.ownsRow base 5 1 v n xs) (hm : 0 < m) (hb : n + m ≤ 1099511627776) (hbase : base ≤ w.heap.size) (hU : U8 w v) (hxs : ∀ u ∈ xs, ∃ x, u = Value.int .u8 x)
    (h : ∀ v' w', w'.ownsRow base 5 1 v' (n + m) (xs ++ List.replicate m (.int .u8 0)) → w.grownBy w' v.ownBlock → (v'.ownBlock = v.ownBlock ∨ v'.ownBlock = some w.heap.size) → U8 w' v' → wpList Tryz.prog ops Q rest (a.put o.dst v') w') : wpList Tryz.prog ops Q (o :: rest) a w :=
  wpList_plain hgd fun _ hK => wp_zeros s x ho base v n m xs hs hx hown hm hb hbase hU hxs fun v' w' h1 h2 h3 h4 => hK _ _ (h v' w' h1 h2 h3 h4)
end Go.Proofs.YtfalncbcomlelaaGreatDoor.Wt

namespace Go.Proofs.YtfalncbcomlelaaGreatDoor.Ip

/-- What one is worth a year later. -/
def gr (k : Int) : Rat := ((10000000 + k : Int) : Rat) * ((10000000 : Int) : Rat)⁻¹
/-- Neither part has more than B binary digits. -/
def Bd (r : Rat) (B : Nat) : Prop := r.num.natAbs < 2 ^ B ∧ r.den < 2 ^ B
theorem mk_parts (a : Int) (b : Nat) (hb : b ≠ 0) : (mkRat a b).num.natAbs ≤ a.natAbs ∧ (mkRat a b).den ≤ b := by
  refine ⟨?_, by rw [Rat.den_mkRat, if_neg hb]; exact Nat.div_le_self _ _⟩
  rw [Rat.num_mkRat, if_neg hb, Int.natAbs_ediv_of_dvd]
  · exact Nat.div_le_self _ _
  · exact Int.ofNat_dvd_left.2 (Nat.gcd_dvd_right _ _)
theorem Bd.mk {a : Int} {b B : Nat} (h1 : a.natAbs < 2 ^ B) (h2 : b < 2 ^ B) (hb : b ≠ 0) : Bd (mkRat a b) B := by
  have := mk_parts a b hb
  exact ⟨by omega, by omega⟩
theorem Bd.mono {r : Rat} {m n : Nat} (h : Bd r m) (hm : m ≤ n) : Bd r n := by
  have := Nat.pow_le_pow_right (show 0 < 2 by decide) hm
  exact ⟨by have := h.1; omega, by have := h.2; omega⟩
theorem mul_lt2 {a b m n : Nat} (h1 : a < 2 ^ m) (h2 : b < 2 ^ n) : a * b < 2 ^ (m + n) := by
  rw [Nat.pow_add]
  by_cases c : b = 0
  · subst c; simpa using Nat.mul_pos (Nat.two_pow_pos m) (Nat.two_pow_pos n)
  · exact Nat.mul_lt_mul'' h1 h2
theorem Bd.add {r s : Rat} {m n : Nat} (h1 : Bd r m) (h2 : Bd s n) : Bd (r + s) (m + n + 1) := by
  rw [Rat.add_def']
  have q1 := mul_lt2 h1.1 h2.2
  have q2 := mul_lt2 h2.1 h1.2
  have q3 := mul_lt2 h1.2 h2.2
  rw [Nat.add_comm n m] at q2
  have e : 2 ^ (m + n + 1) = 2 ^ (m + n) * 2 := Nat.pow_succ _ _
  refine Bd.mk ?_ (by omega) (Nat.mul_ne_zero r.den_nz s.den_nz)
  have := Int.natAbs_add_le (r.num * s.den) (s.num * r.den)
  rw [Int.natAbs_mul, Int.natAbs_mul] at this
  simp only [Int.natAbs_natCast] at this
  omega
theorem lt_pow2 {a m : Nat} (h : a < 2 ^ m) : ∀ n, a ^ n < 2 ^ (m * n + 1)
  | 0 => by simp
  | n + 1 => by
    have h2 : a ^ (n + 1) ≤ (2 ^ m) ^ (n + 1) := Nat.pow_le_pow_left (by omega) _
    rw [← Nat.pow_mul] at h2
    have e : 2 ^ (m * (n + 1) + 1) = 2 ^ (m * (n + 1)) * 2 := Nat.pow_succ _ _
    have := Nat.two_pow_pos (m * (n + 1))
    omega
theorem Bd.int {p : Int} {m : Nat} (h : p.natAbs < 2 ^ m) (h0 : 1 ≤ m) : Bd (p : Rat) m := by
  refine ⟨h, ?_⟩
  show 1 < 2 ^ m
  have := Nat.pow_le_pow_right (show 0 < 2 by decide) h0
  omega
theorem pw_64 : ∀ K : Nat, Tn.pw K = ((2 ^ (64 * K) : Nat) : Int)
  | 0 => by simp [Tn.pw]
  | K + 1 => by
    have e : 2 ^ (64 * (K + 1)) = 18446744073709551616 * 2 ^ (64 * K) := by rw [Nat.mul_succ, Nat.pow_add, Nat.mul_comm]
    rw [e, Int.natCast_mul]
    simp only [Tn.pw]
    rw [pw_64 K]
    rfl
theorem pw_30 : ∀ K : Nat, Tl.pw K = ((2 ^ (30 * K) : Nat) : Int)
  | 0 => by simp [Tl.pw]
  | K + 1 => by
    have e : 2 ^ (30 * (K + 1)) = 1073741824 * 2 ^ (30 * K) := by rw [Nat.mul_succ, Nat.pow_add, Nat.mul_comm]
    rw [e, Int.natCast_mul]
    simp only [Tl.pw]
    rw [pw_30 K]
    rfl
theorem lt_64 {a B K : Nat} (h : a < 2 ^ B) (hB : B ≤ 64 * K) : (a : Int) < Tn.pw K := by
  rw [pw_64]
  have := Nat.pow_le_pow_right (show 0 < 2 by decide) hB
  omega
theorem lt_30 {a B K : Nat} (h : a < 2 ^ B) (hB : B ≤ 30 * K) : (a : Int) < Tl.pw K := by
  rw [pw_30]
  have := Nat.pow_le_pow_right (show 0 < 2 by decide) hB
  omega
end Go.Proofs.YtfalncbcomlelaaGreatDoor.Ip
