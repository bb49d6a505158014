import Derived.Test.YtpmgbmafibkgnaaGreatDoorPart42
import Derived.Test.YtpmgbmafibkgnaaGreatDoorPart43
import Derived.Test.YtpmgbmafibkgnaaGreatDoorPart30
import Derived.Test.YtpmgbmafibkgnaaGreatDoorPart17

namespace Go.Proofs.YtpmgbmafibkgnaaGreatDoor.Mo
open Go.RowKit Fu Tn Go.Lib Dc

set_option maxHeartbeats 1600000 in
set_option maxRecDepth 100000 in
theorem size_walk (s d z : ByteArray) (g : Bool) (w : World) (hs : s.size ≤ 1099511627776) (h0 : 0 < s.size) (hg : neg s = g) (hz : rest s = z) :
    Calls Tryz.prog 8 #[.agg #[.string s, .string d]] w fun e w' => e = .returned (.agg #[.string z, .string ⟨#[49]⟩]) ∧ Below w.heap.size w w' := by
  have pr := ((Below.refl w.heap.size w).alloc (Nat.le_refl _) (.cells #[.string s, .string d] 23)).alloc (by simp) (.cells #[.string z, .string ⟨#[49]⟩] 23)
  have he' : s.toList.isEmpty = false := by rw [empty_iff]; exact decide_eq_false (by omega)
  have hb := bt_in h0
  cases g with
  | false =>
    have hc : (((s[0].toNat : Int)) == 45) = false := by
      rw [beq_eq_false_iff_ne]
      have : ¬ Dc.bt s 0 = 45 := by simpa [neg] using hg
      rw [hb] at this
      omega
    obtain rfl : z = s := by rw [← hz]; unfold rest; rw [hg]; rfl
    clear hb hg hz
    go_enter Tryz.func8, Tryz.ntmps8
    go_wp2
    exact bodyPost_ret (v := .agg #[.string z, .string ⟨#[49]⟩]) (by simp [results, Tryz.results8, go_sem]) rfl ⟨rfl, pr⟩
  | true =>
    have hc : (((s[0].toNat : Int)) == 45) = true := by
      rw [beq_iff_eq]
      have : Dc.bt s 0 = 45 := by simpa [neg] using hg
      rw [hb] at this
      omega
    have hr : s.extract 1 s.size = z := by rw [← hz]; unfold rest; rw [hg]; rfl
    clear hb hg hz
    have h1 : (1 : Int) ≤ (s.size : Int) := by omega
    go_enter Tryz.func8, Tryz.ntmps8
    go_wp2
    exact bodyPost_ret (v := .agg #[.string z, .string ⟨#[49]⟩]) (by simp [results, Tryz.results8, go_sem]) rfl ⟨rfl, pr⟩
theorem wrt_nat (n : Nat) : wrt ((n : Int) : Rat) = .agg #[.string (sB (decDigits n)), .string ⟨#[49]⟩] := by
  have e1 : (((n : Int) : Rat)).num = n := rfl
  have e2 : (((n : Int) : Rat)).den = 1 := rfl
  unfold wrt
  rw [e1, e2, decide_eq_false (by omega), show decDigits 1 = [49] by simp [decDigits]]
  simp [sg, sB]
theorem PS.nat {n m : Nat} (h : (n : Int) < pw m) (h1 : 1 ≤ m) : PS ((n : Int) : Rat) m := by
  have e1 : (((n : Int) : Rat)).num = n := rfl
  have e2 : (((n : Int) : Rat)).den = 1 := rfl
  have p1 : pw 1 = 18446744073709551616 := by decide
  have := pw_mono h1
  unfold PS
  rw [e1, e2]
  exact ⟨by simpa using h, by omega⟩
theorem size_c {r : Rat} {m : Nat} (h : PS r m) (hm : m ≤ 200) (W : World) :
    Calls Tryz.prog 8 #[wrt r] W fun x w' => x = .returned (wrt ((r.num.natAbs : Int) : Rat)) ∧ Below W.heap.size W w' := by
  have l := short_words h.1 hm
  have s1 : (tn r).size ≤ 1099511627776 ∧ 0 < (tn r).size := by
    unfold tn
    rw [sB_size]
    obtain ⟨c, t, e, _⟩ := dec_cons r.num.natAbs
    unfold sg
    rw [e] at l ⊢
    simp only [List.length_append, List.length_cons] at l ⊢
    split <;> simp <;> omega
  rw [wrt_nat]
  exact size_walk (tn r) (td r) _ _ W s1.1 s1.2 rfl (sg_rest _ _)
theorem pcm_nat (a b : Nat) : pcm ((a : Int) : Rat) ((b : Int) : Rat) = if a < b then -1 else if b < a then 1 else 0 := by
  unfold pcm
  simp only [Rat.intCast_lt_intCast]
  have e : ∀ u v : Nat, ((u : Int) < (v : Int)) ↔ u < v := fun u v => by omega
  simp only [e]
/-- Any other number between two is less simple. -/
theorem less_simple {r s t : Rat} (le : r ≤ s) (h1 : r ≤ t) (h2 : t ≤ s) (ne : t ≠ bt r s) : (bt r s).den < t.den ∨ ((bt r s).den = t.den ∧ (bt r s).num.natAbs < t.num.natAbs) := by
  obtain ⟨i1, i2, k⟩ := bt_spec le
  obtain ⟨k1, k2⟩ := k t h1 h2
  rcases Nat.lt_or_ge (bt r s).den t.den with c | c
  · exact Or.inl c
  · right
    have ed : (bt r s).den = t.den := by omega
    refine ⟨ed, ?_⟩
    rcases Nat.lt_or_ge (bt r s).num.natAbs t.num.natAbs with c' | c'
    · exact c'
    · exfalso
      have ea : (bt r s).num.natAbs = t.num.natAbs := by omega
      by_cases same : (bt r s).num = t.num
      · exact ne (Rat.ext same.symm ed.symm)
      · have op : t = -(bt r s) := Rat.ext (by rw [Rat.neg_num]; omega) (by rw [Rat.neg_den]; exact ed.symm)
        have z : r ≤ 0 ∧ 0 ≤ s := by constructor <;> grind
        have b0 : bt r s = 0 := by unfold bt; rw [if_pos z]
        rw [b0] at op ne
        exact ne (by rw [op]; simp)
end Go.Proofs.YtpmgbmafibkgnaaGreatDoor.Mo

namespace Go.Proofs.YtpmgbmafibkgnaaGreatDoor.Mo
open Go.RowKit Fu Tn Go.Lib

/-- A mark on the way. -/
def Tk (_ : Nat) : Prop := True
theorem rcells {W : World} {n : Nat} {s t : ByteArray} (h : Blk W n #[.string s, .string t] 23) : W.cell? ⟨n, 0, none⟩ = some (.string s) ∧ W.cell? ⟨n, 1, none⟩ = some (.string t) ∧ n < W.heap.size := ⟨by simpa using h.at 0, by simpa using h.at 1, h.lt⟩
/-- Three exact numbers in their boxes. -/
structure R3 (w W : World) (an ad bn bd cn cd : ByteArray) : Prop where
  k0 : Blk W w.heap.size #[.string an, .string ad] 23
  k1 : Blk W (w.heap.size + 1) #[.string bn, .string bd] 23
  k2 : Blk W (w.heap.size + 1 + 1) #[.string cn, .string cd] 23
  gw : Gw W
  bel : Below w.heap.size w W
theorem R3.grow {w W W' : World} {an ad bn bd cn cd : ByteArray} (h : R3 w W an ad bn bd cn cd) (b : Below W.heap.size W W') : R3 w W' an ad bn bd cn cd := ⟨h.k0.below b h.k0.lt, h.k1.below b h.k1.lt, h.k2.below b h.k2.lt, h.gw.grow b, bel' h.bel b⟩
theorem R3.cells {w W : World} {an ad bn bd cn cd : ByteArray} (h : R3 w W an ad bn bd cn cd) : W.cell? ⟨w.heap.size, 0, none⟩ = some (.string an) ∧ W.cell? ⟨w.heap.size, 1, none⟩ = some (.string ad) ∧ W.cell? ⟨w.heap.size + 1, 0, none⟩ = some (.string bn) ∧ W.cell? ⟨w.heap.size + 1, 1, none⟩ = some (.string bd) ∧ W.cell? ⟨w.heap.size + 1 + 1, 0, none⟩ = some (.string cn) ∧ W.cell? ⟨w.heap.size + 1 + 1, 1, none⟩ = some (.string cd) ∧ w.heap.size + 1 + 1 < W.heap.size := ⟨by simpa using h.k0.at 0, by simpa using h.k0.at 1, by simpa using h.k1.at 0, by simpa using h.k1.at 1, by simpa using h.k2.at 0, by simpa using h.k2.at 1, h.k2.lt⟩
theorem R3.new (w : World) (an ad bn bd cn cd : ByteArray) (H : Gw w) : R3 w (((w.alloc (.cells #[.string an, .string ad] 23)).alloc (.cells #[.string bn, .string bd] 23)).alloc (.cells #[.string cn, .string cd] 23)) an ad bn bd cn cd := by
  have K1 := Blk.new (w.alloc (.cells #[.string an, .string ad] 23)) #[.string bn, .string bd] 23
  have K2 := Blk.new ((w.alloc (.cells #[.string an, .string ad] 23)).alloc (.cells #[.string bn, .string bd] 23)) #[.string cn, .string cd] 23
  simp only [World.size_alloc] at K1 K2
  exact ⟨((Blk.new w _ _).alloc _).alloc _, K1.alloc _, K2, ((H.alloc _).alloc _).alloc _, (((Below.refl _ _).alloc (Nat.le_refl _) _).alloc (by simp) _).alloc (by simp; omega) _⟩
end Go.Proofs.YtpmgbmafibkgnaaGreatDoor.Mo
