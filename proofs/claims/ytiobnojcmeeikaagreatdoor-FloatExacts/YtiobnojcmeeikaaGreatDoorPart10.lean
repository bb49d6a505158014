import Derived.Test.YtiobnojcmeeikaaGreatDoorPart09

namespace Go.Proofs.YtiobnojcmeeikaaGreatDoor.L
open Go.RowKit Tl

/- Long division: what lies where, and how it begins. -/

theorem own_parts {w : World} {base : Nat} {e : TypeId} {v : Value} {Y : List Int} (h : w.ownsRow base e 1 v Y.length (Y.map (Value.int .i64))) (ne : 0 < Y.length) :
    ∃ g cap, v = .slice (some ⟨g, 0, none⟩) Y.length cap ∧ base ≤ g ∧ Own w g ∧ Y.length ≤ cap ∧ cap ≤ 9223372036854775807 ∧ Cells w g 0 Y := by
  obtain ⟨_, h2⟩ := h
  rcases h2 with ⟨rfl, h2⟩ | ⟨g, cap, cur, rfl, e2, e3, e4, e5, e6, e7⟩
  · omega
  · refine ⟨g, cap, rfl, e2, ⟨cur, _, e3⟩, e4, e5, ?_⟩
    intro i hi
    rw [Nat.mul_one] at e7
    have h7 := congrArg (fun l : List Value => l[i]?) e7
    simp only [List.getElem?_take, hi, if_true, List.getElem?_map] at h7
    simp only [World.cell?, e3, Nat.zero_add, Option.isSome_none, Bool.false_eq_true, if_false]
    rw [Array.getElem?_toList] at h7
    rw [h7]
    simp [nth, List.getD_eq_getElem?_getD, List.getElem?_eq_getElem hi]
/-- Divisor, rest and quotient, each in a block of its own. -/
structure Lay (w wr : World) (bv ov gU gQ : Nat) (V U Q : List Int) : Prop where
  h1 : bv < gU
  h2 : gU < gQ
  h3 : w.heap.size ≤ gU
  below : Below w.heap.size w wr
  cv : Cells wr bv ov V
  cu : Cells wr gU 0 U
  cq : Cells wr gQ 0 Q
  ou : Own wr gU
  oq : Own wr gQ
theorem Lay.drewN {w wr : World} {bv ov gU gQ : Nat} {V U Q : List Int} (h : Lay w wr bv ov gU gQ V U Q) (m : Nat) : Lay w (wr.drewN m) bv ov gU gQ V U Q := ⟨h.h1, h.h2, h.h3, ⟨h.below.os, h.below.tape, h.below.output, h.below.size, h.below.block⟩, h.cv, h.cu, h.cq, h.ou, h.oq⟩
theorem Lay.drew {w wr : World} {bv ov gU gQ : Nat} {V U Q : List Int} (h : Lay w wr bv ov gU gQ V U Q) : Lay w wr.drew bv ov gU gQ V U Q := ⟨h.h1, h.h2, h.h3, ⟨h.below.os, h.below.tape, h.below.output, h.below.size, h.below.block⟩, h.cv, h.cu, h.cq, h.ou, h.oq⟩
theorem Lay.setU {w wr : World} {bv ov gU gQ : Nat} {V U Q : List Int} (h : Lay w wr bv ov gU gQ V U Q) (k : Nat) (hk : k < U.length) (x : Int) : Lay w (wr.setCell ⟨gU, k, none⟩ (.int .i64 x)) bv ov gU gQ V (U.set k x) Q := by
  have hw : Wr gU 0 U.length wr (wr.setCell ⟨gU, k, none⟩ (.int .i64 x)) := (Wr.refl _ _ _ _).setCell k (by omega) _
  have a := h.h1; have b := h.h2; have c := h.h3
  exact ⟨a, b, c, h.below.trans (hw.below c h.below.size), h.cv.other hw (by omega), by simpa using h.cu.set k hk x, h.cq.other hw (by omega), h.ou.wr hw, h.oq.wr hw⟩
theorem Lay.setQ {w wr : World} {bv ov gU gQ : Nat} {V U Q : List Int} (h : Lay w wr bv ov gU gQ V U Q) (k : Nat) (hk : k < Q.length) (x : Int) : Lay w (wr.setCell ⟨gQ, k, none⟩ (.int .i64 x)) bv ov gU gQ V U (Q.set k x) := by
  have hw : Wr gQ 0 Q.length wr (wr.setCell ⟨gQ, k, none⟩ (.int .i64 x)) := (Wr.refl _ _ _ _).setCell k (by omega) _
  have a := h.h1; have b := h.h2; have c := h.h3
  exact ⟨a, b, c, h.below.trans (hw.below (by omega) h.below.size), h.cv.other hw (by omega), h.cu.other hw (by omega), by simpa using h.cq.set k hk x, h.ou.wr hw, h.oq.wr hw⟩
theorem Lay.atU {w wr : World} {bv ov gU gQ : Nat} {V U Q : List Int} (h : Lay w wr bv ov gU gQ V U Q) {k : Nat} (hk : k < U.length) : wr.cell? ⟨gU, k, none⟩ = some (.int .i64 (nth U k)) := by have := h.cu.at hk; rwa [Nat.zero_add] at this
theorem Lay.freeU {w wr : World} {bv ov gU gQ : Nat} {V U Q : List Int} (h : Lay w wr bv ov gU gQ V U Q) (k : Nat) : wr.frozen? ⟨gU, k, none⟩ = false := by have := h.ou.free 0 (k + 1) k (by omega); rwa [Nat.zero_add] at this
theorem Lay.freeQ {w wr : World} {bv ov gU gQ : Nat} {V U Q : List Int} (h : Lay w wr bv ov gU gQ V U Q) (k : Nat) : wr.frozen? ⟨gQ, k, none⟩ = false := by have := h.oq.free 0 (k + 1) k (by omega); rwa [Nat.zero_add] at this

theorem two_le {s : Nat} (hs : s ≤ 29) : (0 : Int) < 2 ^ s ∧ (2 : Int) ^ s ≤ 536870912 ∧ ∃ u : Int, 2 ^ s * u = 1073741824 := by
  have h : 2 ^ s ≤ 2 ^ 29 := Nat.pow_le_pow_right (by decide) hs
  have e : ((2 ^ s : Nat) : Int) = (2 : Int) ^ s := by simp
  refine ⟨Int.pow_pos (by decide), by omega, 2 ^ (30 - s), ?_⟩
  rw [← Int.pow_add, show s + (30 - s) = 30 from by omega]; decide
theorem shift_len {ys V : List Int} {s : Nat} (hy : Wd ys) (ny : Nm ys) (l : 0 < ys.length) (hV : Wd V) (nV : Nm V) (hs : s ≤ 29) (ht : nth ys (ys.length - 1) * 2 ^ s < 1073741824) (e : val V = val ys * 2 ^ s) : V.length = ys.length := by
  obtain ⟨p0, p1, u, hu⟩ := two_le hs
  have ne : ys ≠ [] := by intro h; rw [h] at l; simp at l
  have lo := val_low hy ny ne
  have at1 := val_at ys (ys.length - 1) (by omega)
  rw [show ys.length - 1 + 1 = ys.length from by omega, List.take_length] at at1
  have t1 := val_lt (hy.take (ys.length - 1))
  rw [List.length_take, Nat.min_eq_left (by omega)] at t1
  have b := nth_bd hy (ys.length - 1)
  have hu1 : nth ys (ys.length - 1) + 1 ≤ u := by
    have : nth ys (ys.length - 1) * 2 ^ s < u * 2 ^ s := by rw [Int.mul_comm u]; omega
    have := Int.lt_of_mul_lt_mul_right this (Int.le_of_lt p0)
    omega
  have p := pw_pos (ys.length - 1)
  have hi : val ys ≤ (nth ys (ys.length - 1) + 1) * pw (ys.length - 1) := by
    rw [at1]; have : (nth ys (ys.length - 1) + 1) * pw (ys.length - 1) = pw (ys.length - 1) * nth ys (ys.length - 1) + pw (ys.length - 1) := by grind
    omega
  have hi2 : val ys < u * pw (ys.length - 1) := by
    have h1 : val ys < (nth ys (ys.length - 1) + 1) * pw (ys.length - 1) := by
      rw [at1]; have : (nth ys (ys.length - 1) + 1) * pw (ys.length - 1) = pw (ys.length - 1) * nth ys (ys.length - 1) + pw (ys.length - 1) := by grind
      omega
    have := Int.mul_le_mul_of_nonneg_right hu1 (Int.le_of_lt p)
    omega
  have hV1 : val V < pw ys.length := by
    have h1 := Int.mul_lt_mul_of_pos_right hi2 p0
    have h2 : u * pw (ys.length - 1) * 2 ^ s = pw ys.length := by
      rw [show ys.length = ys.length - 1 + 1 from by omega, pw, ← hu, show ys.length - 1 + 1 - 1 = ys.length - 1 from by omega]; grind
    omega
  have hV0 : pw (ys.length - 1) ≤ val V := by
    rw [e]
    have := Int.mul_le_mul_of_nonneg_left (show 1 ≤ (2 : Int) ^ s by omega) (show 0 ≤ val ys by omega)
    omega
  have up : V.length ≤ ys.length := by
    by_cases c : V.length ≤ ys.length
    · exact c
    · have nv : V ≠ [] := by intro h; rw [h] at c; simp at c
      have := val_low hV nV nv
      have := pw_mono (show ys.length ≤ V.length - 1 by omega)
      omega
  have dn : ys.length ≤ V.length := by
    by_cases c : ys.length ≤ V.length
    · exact c
    · have := val_lt hV
      have := pw_mono (show V.length ≤ ys.length - 1 by omega)
      omega
  omega
theorem shl_len {xs A : List Int} {s : Nat} (hx : Wd xs) (hA : Wd A) (nA : Nm A) (hs : s ≤ 29) (e : val A = val xs * 2 ^ s) : A.length ≤ xs.length + 1 := by
  obtain ⟨p0, p1, _⟩ := two_le hs
  by_cases c : A.length ≤ xs.length + 1
  · exact c
  · have nv : A ≠ [] := by intro h; rw [h] at c; simp at c
    have l := val_low hA nA nv
    have m := pw_mono (show xs.length + 1 ≤ A.length - 1 by omega)
    have h := val_lt hx
    have h0 := val_nonneg hx
    have a := Int.mul_le_mul_of_nonneg_left p1 h0
    have p := pw_pos xs.length
    have : pw (xs.length + 1) = 1073741824 * pw xs.length := rfl
    omega
theorem start_lt {xs ys U V : List Int} {s M : Nat} (hx : Wd xs) (hy : Wd ys) (ny : Nm ys) (l : 0 < ys.length) (eU : val U = val xs * 2 ^ s) (eV : val V = val ys * 2 ^ s) (hs : s ≤ 29) (hM : xs.length + 1 = M + ys.length) : val U < pw M * val V := by
  obtain ⟨p0, p1, _⟩ := two_le hs
  have ne : ys ≠ [] := by intro h; rw [h] at l; simp at l
  have lo := val_low hy ny ne
  have h := val_lt hx
  rw [show xs.length = M + (ys.length - 1) from by omega, pw_add] at h
  have a := Int.mul_le_mul_of_nonneg_left lo (Int.le_of_lt (pw_pos M))
  have b := Int.mul_lt_mul_of_pos_right (show val xs < pw M * val ys by omega) p0
  rw [eU, eV]
  have : pw M * (val ys * 2 ^ s) = pw M * val ys * 2 ^ s := by grind
  omega
/-- What is left, shifted back. -/
theorem shift_back {X Y Q R s : Int} (s0 : 0 < s) (_y0 : 0 < Y) (h : Q * (Y * s) + R = X * s) (r0 : 0 ≤ R) (r1 : R < Y * s) : X = Q * Y + R / s ∧ 0 ≤ R / s ∧ R / s < Y := by
  have e : R = (X - Q * Y) * s := by grind
  have e2 : R / s = X - Q * Y := by rw [e]; exact Int.mul_ediv_cancel _ (by omega)
  refine ⟨by omega, Int.ediv_nonneg r0 (by omega), ?_⟩
  rw [e2]
  have : (X - Q * Y) * s < Y * s := by omega
  exact Int.lt_of_mul_lt_mul_right this (by omega)
set_option maxRecDepth 100000 in
/-- DivMod of the reference: nothing goes in. -/
theorem dm_less (v1 v2 : Value) (xs ys : List Int) (w : World) (h1 : Rd w v1 xs) (h2 : Rd w v2 ys) (n1 : Nm xs) (n2 : Nm ys) (l1 : xs.length ≤ 274877906944) (hlt : val xs < val ys) :
    Calls Tryz.prog 44 #[v1, v2] w fun e w' => e = .returned (.tuple #[.slice none 0 0, v1]) ∧ Below w.heap.size w w' := by
  have hc : cmp3 (val xs) (val ys) = -1 := cmp3_lt hlt
  go_enter Tryz.func44, Tryz.ntmps44
  go_wp2_with (first
    | (go_at_call 43; refine (Cmp_any v1 v2 xs ys _ h1 h2 n1 n2 (by omega)).mono ?_; rintro e w' ⟨rfl, hb⟩)
    | fail)
  exact bodyPost_ret (v := .tuple #[.slice none 0 0, v1]) (by simp [results, Tryz.results44, go_sem]) rfl ⟨rfl, hb⟩
set_option maxHeartbeats 1600000 in
set_option maxRecDepth 100000 in
/-- By one limb. -/
theorem dm_one (v1 v2 : Value) (xs ys : List Int) (w : World) (h1 : Rd w v1 xs) (h2 : Rd w v2 ys) (n1 : Nm xs) (n2 : Nm ys) (l1 : xs.length ≤ 274877906944) (hle : val ys ≤ val xs) (hl : ys.length = 1) :
    Calls Tryz.prog 44 #[v1, v2] w fun e w' => ∃ q r zs rs, e = .returned (.tuple #[q, r]) ∧ Rd w' q zs ∧ Nm zs ∧ Rd w' r rs ∧ Nm rs ∧ val xs = val zs * val ys + val rs ∧ 0 ≤ val rs ∧ val rs < val ys ∧ Below w.heap.size w w' := by
  have hc : ¬ cmp3 (val xs) (val ys) < 0 := by unfold cmp3; rw [if_neg (by omega)]; split <;> omega
  obtain ⟨d, rfl⟩ : ∃ d, ys = [d] := by
    match ys, hl with
    | [d], _ => exact ⟨d, rfl⟩
  have hd := (h2.1).head
  have d0 : d ≠ 0 := by
    rcases n2 with h | h
    · cases h
    · simpa using h
  have hR2 : Hid (∀ w', Below w.heap.size w w' → Rd w' v2 [d]) := fun w' k => h2.grow k
  have hR1 : Hid (∀ w', Below w.heap.size w w' → Rd w' v1 xs) := fun w' k => h1.grow k
  have h2' := h2
  obtain ⟨_, a2, c2, rfl, _, _, g2⟩ := h2'
  obtain ⟨b2, o2, rfl, cs2⟩ := g2 (by simp)
  go_enter Tryz.func44, Tryz.ntmps44
  go_wp2_with (first
    | (go_at_call 43; refine (Cmp_any v1 _ xs [d] _ h1 h2 n1 n2 (by omega)).mono ?_; rintro e w1 ⟨rfl, hb⟩; have k1 := (cs2.grow hb).at (i := 0) (by simp); rw [Nat.add_zero] at k1; have k2 : nth [d] 0 = d := rfl; rw [k2] at k1)
    | (go_at_call 46; refine (small_any v1 xs d _ (hR1.out _ hb) (by omega) (by omega) hd.2).mono ?_; rintro e w2 ⟨r, zs, m, rfl, hr, hn, hv, m0, m1, hb2⟩; have HV : Hid (val zs * d + m = val xs) := hv; clear hv)
    | (go_at_call 55; refine (NatOf_any m _ m0 (by omega)).mono ?_; rintro e w3 ⟨r2, rs, rfl, hr3, hn3, hv3, hb3⟩)
    | fail)
  have e1 : val [d] = d := by simp [val]
  have hbb := hb.trans ((hb2.mono hb.size).trans (hb3.mono (Nat.le_trans hb.size hb2.size)))
  exact bodyPost_ret (v := .tuple #[r, r2]) (by simp [results, Tryz.results44, go_sem]) rfl ⟨_, _, zs, rs, rfl, hr.grow hb3, hn, hr3, hn3, by rw [e1, hv3]; exact HV.out.symm, by omega, by rw [e1]; omega, hbb⟩
end Go.Proofs.YtiobnojcmeeikaaGreatDoor.L
