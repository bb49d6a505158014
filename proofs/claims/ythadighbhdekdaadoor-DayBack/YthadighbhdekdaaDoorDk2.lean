/- Plain: dates and texts lead to one another. -/
import Derived.Test.YthadighbhdekdaaDoorDk1
import Derived.Test.YthadighbhdekdaaDoorDu1
namespace Go.Proofs.YthadighbhdekdaaDoor.Dt
open Go Go.Lib Go.Proofs.YthadighbhdekdaaDoor.Dy Dc
theorem bt_bs (l : List UInt8) (j : Nat) (h : j < l.length) : bt (bs l) j = (l[j]).toNat := by
  rw [bt_in (by rw [bs_size]; exact h)]
  rfl
theorem of48 {k : Nat} (h : k < 10) : (UInt8.ofNat (48 + k)).toNat = 48 + k := by
  simp; omega
theorem txt_list (y m d : Int) : txt y m d = [UInt8.ofNat (48 + y.toNat / 1000 % 10), UInt8.ofNat (48 + y.toNat / 100 % 10), UInt8.ofNat (48 + y.toNat / 10 % 10), UInt8.ofNat (48 + y.toNat % 10), 45, UInt8.ofNat (48 + m.toNat / 10 % 10), UInt8.ofNat (48 + m.toNat % 10), 45, UInt8.ofNat (48 + d.toNat / 10 % 10), UInt8.ofNat (48 + d.toNat % 10)] := rfl
theorem txt_len (y m d : Int) : (txt y m d).length = 10 := rfl
theorem num2 (a b : UInt8) : Dc.num [a, b] = 10 * (a.toNat - 48) + (b.toNat - 48) := by simp [Dc.num]
theorem num4 (a b c d : UInt8) : Dc.num [a, b, c, d] = 10 * (10 * (10 * (a.toNat - 48) + (b.toNat - 48)) + (c.toNat - 48)) + (d.toNat - 48) := by simp [Dc.num]
theorem okb_dash {s : ByteArray} {j : Nat} (hj : j = 4 ∨ j = 7) (h : bt s j = 45) : okb s j = true := by unfold okb; rw [if_pos hj, decide_eq_true h]
theorem okb_dig {s : ByteArray} {j k : Nat} (hj : ¬ (j = 4 ∨ j = 7)) (hk : k < 10) (h : bt s j = 48 + k) : okb s j = true := by
  unfold okb dgt; rw [if_neg hj, decide_eq_true_iff]; omega
theorem hf_txt (y m d : Int) : hf (bs (txt y m d)) = true := by
  unfold hf
  rw [bs_size, txt_len, decide_eq_true rfl, Bool.true_and]
  refine hf_yes fun j hj => ?_
  have b := bt_bs (txt y m d) j (by rw [txt_len]; exact hj)
  rcases ten hj with rfl | rfl | rfl | rfl | rfl | rfl | rfl | rfl | rfl | rfl
  · exact okb_dig (by omega) (by omega) (b.trans (of48 (k := y.toNat / 1000 % 10) (by omega)))
  · exact okb_dig (by omega) (by omega) (b.trans (of48 (k := y.toNat / 100 % 10) (by omega)))
  · exact okb_dig (by omega) (by omega) (b.trans (of48 (k := y.toNat / 10 % 10) (by omega)))
  · exact okb_dig (by omega) (by omega) (b.trans (of48 (k := y.toNat % 10) (by omega)))
  · exact okb_dash (by omega) b
  · exact okb_dig (by omega) (by omega) (b.trans (of48 (k := m.toNat / 10 % 10) (by omega)))
  · exact okb_dig (by omega) (by omega) (b.trans (of48 (k := m.toNat % 10) (by omega)))
  · exact okb_dash (by omega) b
  · exact okb_dig (by omega) (by omega) (b.trans (of48 (k := d.toNat / 10 % 10) (by omega)))
  · exact okb_dig (by omega) (by omega) (b.trans (of48 (k := d.toNat % 10) (by omega)))
theorem nv_txt4 {y m d : Int} (h0 : 0 ≤ y) (h1 : y ≤ 9999) : nv (bs (txt y m d)) 0 4 = y := by
  show (Dc.num [UInt8.ofNat (48 + y.toNat / 1000 % 10), UInt8.ofNat (48 + y.toNat / 100 % 10), UInt8.ofNat (48 + y.toNat / 10 % 10), UInt8.ofNat (48 + y.toNat % 10)] : Int) = y
  rw [num4, of48 (by omega), of48 (by omega), of48 (by omega), of48 (by omega)]
  omega
theorem nv_txtm {y m d : Int} (h0 : 0 ≤ m) (h1 : m ≤ 99) : nv (bs (txt y m d)) 5 7 = m := by
  show (Dc.num [UInt8.ofNat (48 + m.toNat / 10 % 10), UInt8.ofNat (48 + m.toNat % 10)] : Int) = m
  rw [num2, of48 (by omega), of48 (by omega)]
  omega
theorem nv_txtd {y m d : Int} (h0 : 0 ≤ d) (h1 : d ≤ 99) : nv (bs (txt y m d)) 8 10 = d := by
  show (Dc.num [UInt8.ofNat (48 + d.toNat / 10 % 10), UInt8.ofNat (48 + d.toNat % 10)] : Int) = d
  rw [num2, of48 (by omega), of48 (by omega)]
  omega
/-- Parse of a text. -/
theorem ps_txt {y m d : Int} (g : good y m d = true) : psR (bs (txt y m d)) = .tuple #[dt y m d, .int .i64 0] := by
  obtain ⟨g1, g2, g3, g4, g5, g6⟩ := good_iff.1 g
  have mb := ml_bd (lp y) m
  unfold psR
  rw [if_neg (by rw [bs_size, txt_len]; omega), hf_txt, if_pos rfl, nv_txt4 (by omega) (by omega), nv_txtm (by omega) (by omega), nv_txtd (by omega) (by omega), g, if_pos rfl]
theorem back48 {a : UInt8} (h : Dg a) {k : Nat} (e : k = a.toNat - 48) : UInt8.ofNat (48 + k) = a := by
  unfold Dg at h
  subst e
  rw [show 48 + (a.toNat - 48) = a.toNat by omega, UInt8.ofNat_toNat]
theorem pad4_num {a b c d : UInt8} (ha : Dg a) (hb : Dg b) (hc : Dg c) (hd : Dg d) : pad4 (Dc.num [a, b, c, d]) = [a, b, c, d] := by
  rw [num4]
  unfold pad4
  have h1 := ha; have h2 := hb; have h3 := hc; have h4 := hd
  unfold Dg at h1 h2 h3 h4
  rw [back48 ha (by omega), back48 hb (by omega), back48 hc (by omega), back48 hd (by omega)]
theorem pad2_num {a b : UInt8} (ha : Dg a) (hb : Dg b) : pad2 (Dc.num [a, b]) = [a, b] := by
  rw [num2]
  unfold pad2
  have h1 := ha; have h2 := hb
  unfold Dg at h1 h2
  rw [back48 ha (by omega), back48 hb (by omega)]
theorem list10 {l : List UInt8} (h : l.length = 10) : ∃ a b c d e f g i j k, l = [a, b, c, d, e, f, g, i, j, k] := by
  match l, h with
  | [a, b, c, d, e, f, g, i, j, k], _ => exact ⟨a, b, c, d, e, f, g, i, j, k, rfl⟩
/-- The text of what was read. -/
theorem txt_ps {s : ByteArray} (h1 : s.size = 10) (h2 : ∀ j, j < 10 → okb s j = true) : s = bs (txt (nv s 0 4) (nv s 5 7) (nv s 8 10)) := by
  have hl : s.data.toList.length = 10 := by rw [Array.length_toList]; exact h1
  obtain ⟨a, b, c, d, e, f, g, i, j, k, el⟩ := list10 hl
  have es : s = bs [a, b, c, d, e, f, g, i, j, k] := by
    apply ByteArray.ext; apply Array.ext'; rw [el]; rfl
  subst es
  have B := fun q (hq : q < 10) => bt_bs [a, b, c, d, e, f, g, i, j, k] q hq
  have D : ∀ q (hq : q < 10), ¬ (q = 4 ∨ q = 7) → Dg ([a, b, c, d, e, f, g, i, j, k][q]) := fun q hq hn => by
    have := h2 q hq
    unfold okb dgt at this
    rw [if_neg hn, decide_eq_true_iff, B q hq] at this
    exact this
  have E4 : e = 45 := by
    have := h2 4 (by omega)
    unfold okb at this
    rw [if_pos (by omega), decide_eq_true_iff, B 4 (by omega)] at this
    exact UInt8.toNat_inj.1 this
  have E7 : i = 45 := by
    have := h2 7 (by omega)
    unfold okb at this
    rw [if_pos (by omega), decide_eq_true_iff, B 7 (by omega)] at this
    exact UInt8.toNat_inj.1 this
  unfold txt
  have n1 : (nv (bs [a, b, c, d, e, f, g, i, j, k]) 0 4).toNat = Dc.num [a, b, c, d] := rfl
  have n2 : (nv (bs [a, b, c, d, e, f, g, i, j, k]) 5 7).toNat = Dc.num [f, g] := rfl
  have n3 : (nv (bs [a, b, c, d, e, f, g, i, j, k]) 8 10).toNat = Dc.num [j, k] := rfl
  have D0 : Dg a := D 0 (by omega) (by omega)
  have D1 : Dg b := D 1 (by omega) (by omega)
  have D2 : Dg c := D 2 (by omega) (by omega)
  have D3 : Dg d := D 3 (by omega) (by omega)
  have D5 : Dg f := D 5 (by omega) (by omega)
  have D6 : Dg g := D 6 (by omega) (by omega)
  have D8 : Dg j := D 8 (by omega) (by omega)
  have D9 : Dg k := D 9 (by omega) (by omega)
  rw [n1, n2, n3, pad4_num D0 D1 D2 D3, pad2_num D5 D6, pad2_num D8 D9, E4, E7]
  rfl
end Go.Proofs.YthadighbhdekdaaDoor.Dt
