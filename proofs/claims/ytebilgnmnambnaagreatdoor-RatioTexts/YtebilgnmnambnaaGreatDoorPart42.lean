import Derived.Test.YtebilgnmnambnaaGreatDoorPart40
import Derived.Test.YtebilgnmnambnaaGreatDoorPart12
import Derived.Test.YtebilgnmnambnaaGreatDoorPart37
import Derived.Test.YtebilgnmnambnaaGreatDoorPart41
import Derived.Test.YtebilgnmnambnaaGreatDoorPart33
import Derived.Test.YtebilgnmnambnaaGreatDoorPart32
import Derived.Test.YtebilgnmnambnaaGreatDoorPart34
import Derived.Test.YtebilgnmnambnaaGreatDoorPart06
import Derived.Deep.RegionHeld3
import Derived.Deep.DeepCutAuto
import Derived.Test.YtebilgnmnambnaaGreatDoorPart36
import Derived.Test.YtebilgnmnambnaaGreatDoorPart10
import Derived.Test.YtebilgnmnambnaaGreatDoorPart11
import Derived.Test.YtebilgnmnambnaaGreatDoorPart09
import Derived.Test.YtebilgnmnambnaaGreatDoorPart27
import Derived.Lib.SmallJoins

namespace Go.Proofs.YtebilgnmnambnaaGreatDoor.Mo
open Go.RowKit Tn Dc
theorem first_of (s : ByteArray) (q : UInt8 → Bool) : ∃ i, i ≤ s.size ∧ (∀ (j : Nat) (h : j < s.size), j < i → q s[j] = false) ∧ (∀ h : i < s.size, q s[i] = true) := by
  have H : ∀ n i, i + n = s.size → (∀ (j : Nat) (h : j < s.size), j < i → q s[j] = false) → ∃ i, i ≤ s.size ∧ (∀ (j : Nat) (h : j < s.size), j < i → q s[j] = false) ∧ (∀ h : i < s.size, q s[i] = true) := by
    intro n
    induction n with
    | zero => exact fun i e h => ⟨i, by omega, h, fun h => absurd h (by omega)⟩
    | succ n ih =>
      intro i e h
      have z : i < s.size := by omega
      cases c : q s[i] with
      | true => exact ⟨i, by omega, h, fun _ => c⟩
      | false => exact ih (i + 1) (by omega) (fun j hj hm => by
          by_cases e : j = i
          · subst e; exact c
          · exact h j hj (by omega))
  exact H s.size 0 (by omega) (fun j _ h => absurd h (by omega))
theorem digs_dg {s : ByteArray} (h : Digs s) : ∀ c ∈ s.data.toList, Dc.Dg c := by
  intro c hc
  obtain ⟨i, hi, rfl⟩ := List.getElem_of_mem hc
  have := h.2 i (by simpa using hi)
  unfold Go.Proofs.YtebilgnmnambnaaGreatDoor.Dg at this
  have e : s[i]'(by simpa using hi) = s.data.toList[i] := rfl
  rw [e] at this
  unfold Dc.Dg
  omega
theorem natB_digs {s : ByteArray} (h : natB s = true) : Digs s := ((natB_iff s).1 h).1
theorem not_digs {s : ByteArray} {j : Nat} (hj : j < s.size) (h : s[j].toNat = 47 ∨ s[j].toNat = 46) : ¬ Digs s := by
  intro d
  have := d.2 j hj
  unfold Go.Proofs.YtebilgnmnambnaaGreatDoor.Dg at this
  omega
theorem dec_tl {n k : Nat} (h : k < n) : ((10 ^ k : Nat) : Int) < Tl.pw n := by
  have a := L.ten_pw k
  have b : Tl.pw k < Tl.pw n := by
    have : Tl.pw n = Tl.pw (n - 1 + 1) := by congr 1; omega
    rw [this]
    have c := Tl.pw_mono (show k ≤ n - 1 by omega)
    have p := Tl.pw_pos (n - 1)
    simp only [Tl.pw]
    omega
  omega
theorem dec_tn {n k : Nat} (h : k < n) : ((10 ^ k : Nat) : Int) < Tn.pw n := by
  have a := ten_pw k
  have a' : (10 : Nat) ^ k ≤ 10 ^ (16 * k) := Nat.pow_le_pow_right (by decide) (by omega)
  have b : Tn.pw k < Tn.pw n := by
    have : Tn.pw n = Tn.pw (n - 1 + 1) := by congr 1; omega
    rw [this]
    have c := Tn.pw_mono (show k ≤ n - 1 by omega)
    have p := Tn.pw_pos (n - 1)
    simp only [Tn.pw]
    omega
  generalize (10 : Nat) ^ (16 * k) = T at *
  generalize (10 : Nat) ^ k = U at *
  omega
def nv (s : ByteArray) : Nat := Dc.num s.data.toList
theorem nv_lt {s : ByteArray} (h : ∀ c ∈ s.data.toList, Dc.Dg c) : nv s < 10 ^ s.size := by
  have := Dc.num_lt _ h
  rwa [show s.data.toList.length = s.size by simp] at this
theorem nv_tl {s : ByteArray} {n : Nat} (h : ∀ c ∈ s.data.toList, Dc.Dg c) (hs : s.size < n) : (nv s : Int) < Tl.pw n := by
  have a := nv_lt h
  have b := dec_tl hs
  generalize (10 : Nat) ^ s.size = T at *
  omega
theorem nv_tn {s : ByteArray} {n : Nat} (h : ∀ c ∈ s.data.toList, Dc.Dg c) (hs : s.size < n) : (nv s : Int) < Tn.pw n := by
  have a := nv_lt h
  have b := dec_tn hs
  generalize (10 : Nat) ^ s.size = T at *
  omega
theorem nv_app (a b : ByteArray) : nv (a ++ b) = nv a * 10 ^ b.size + nv b := by
  unfold nv
  rw [ByteArray.data_append, Array.toList_append, Dc.num_append, show b.data.toList.length = b.size by simp]
theorem dg_app {a b : ByteArray} (ha : ∀ c ∈ a.data.toList, Dc.Dg c) (hb : ∀ c ∈ b.data.toList, Dc.Dg c) : ∀ c ∈ (a ++ b).data.toList, Dc.Dg c := by
  intro c hc
  rw [ByteArray.data_append, Array.toList_append, List.mem_append] at hc
  exact hc.elim (ha c) (hb c)
theorem dg_cut {b : ByteArray} (hb : ∀ c ∈ b.data.toList, Dc.Dg c) (k : Nat) : ∀ c ∈ (b.extract 0 k).data.toList, Dc.Dg c := by
  intro c hc
  rw [← ex_take] at hc
  exact hb c (List.mem_of_mem_take hc)
theorem num_zeros : ∀ l : List UInt8, (∀ c ∈ l, c = 48) → Dc.num l = 0
  | [], _ => rfl
  | c :: r, h => by
    rw [Dc.num_cons, h c (by simp), num_zeros r (fun d hd => h d (by simp [hd]))]
    simp
theorem nv_trim (b : ByteArray) (k : Nat) (hk : k ≤ b.size) (h : ∀ (j : Nat) (h : j < b.size), k ≤ j → b[j] = 48) : nv b = nv (b.extract 0 k) * 10 ^ (b.size - k) := by
  have e : b.data.toList = b.data.toList.take k ++ b.data.toList.drop k := (List.take_append_drop _ _).symm
  have z : Dc.num (b.data.toList.drop k) = 0 := num_zeros _ (fun c hc => by
    obtain ⟨i, hi, rfl⟩ := List.getElem_of_mem hc
    have hi' : k + i < b.size := by simp at hi; omega
    rw [List.getElem_drop]
    exact h (k + i) hi' (by omega))
  unfold nv
  rw [← ex_take]
  show Dc.num b.data.toList = Dc.num (b.data.toList.take k) * _
  rw [e, Dc.num_append, z]
  simp
theorem sgI_mul (g : Bool) (x c : Int) : L.sgI g (x * c) = L.sgI g x * c := by
  unfold L.sgI
  cases g
  · rfl
  · simp [Int.neg_mul]
theorem mk_scale (g : Bool) (x : Nat) (d c : Nat) (hc : c ≠ 0) : mkRat (L.sgI g ((x * c : Nat) : Int)) (d * c) = mkRat (L.sgI g (x : Int)) d := by
  rw [Int.natCast_mul, sgI_mul]
  exact Rat.mkRat_mul_right hc
theorem mk_both (g : Bool) (x d n : Nat) (hd : d ≠ 0) (h1 : (x : Int) < Tn.pw n) (h2 : (d : Int) < Tn.pw n) (h3 : (x : Int) < Tl.pw n) (h4 : (d : Int) < Tl.pw n) : PS (mkRat (L.sgI g (x : Int)) d) n ∧ L.QS (mkRat (L.sgI g (x : Int)) d) n := by
  have a := Ip.mk_parts (L.sgI g (x : Int)) d hd
  have b : (L.sgI g (x : Int)).natAbs = x := by have := L.sgI_abs g (show (0 : Int) ≤ x by omega); omega
  rw [b] at a
  exact ⟨⟨by omega, by omega⟩, ⟨by omega, by omega⟩⟩
end Go.Proofs.YtebilgnmnambnaaGreatDoor.Mo

namespace Go.Proofs.YtebilgnmnambnaaGreatDoor.Mo
open Go.RowKit Tn Dc
theorem read_nl (s : ByteArray) (hd : ∀ c ∈ s.data.toList, Dc.Dg c) (hs : s.size ≤ 65536) (x : World) : Calls Tryz.prog 76 #[.string s] x fun e w' => ∃ a l c, e = .returned (.slice a l c) ∧ Nl w' a l c (nv s : Int) ∧ Below x.heap.size x w' := by
  refine (L.BRead_any s x (by omega) hd).mono ?_
  rintro e w' ⟨v, zs, rfl, r, n, v', _, b⟩
  obtain ⟨a, c, rfl⟩ := L.rd_form r
  exact ⟨a, _, c, rfl, ⟨zs, r, n, v'⟩, b⟩
theorem parse_nn (s : ByteArray) (hd : ∀ c ∈ s.data.toList, Dc.Dg c) (hs : s.size ≤ 65536) (x : World) : Calls Tryz.prog 109 #[.string s] x fun e w' => ∃ a l c, e = .returned (.agg #[.slice a l c]) ∧ Nn w' a l c (nv s : Int) ∧ Below x.heap.size x w' := by
  refine (Parse_any s x (by omega) hd).mono ?_
  rintro e w' ⟨r, zs, rfl, h, n, v, _, b⟩
  obtain ⟨a, l, c, rfl⟩ := h.shape
  exact ⟨a, l, c, rfl, ⟨zs, h, n, v⟩, b⟩
theorem ten_nn (x : World) : Calls Tryz.prog 65 #[.int .u64 10] x fun e w' => ∃ a l c, e = .returned (.agg #[.slice a l c]) ∧ Nn w' a l c 10 ∧ Below x.heap.size x w' := by
  refine (Of_any 10 x (by decide) (by decide)).mono ?_
  rintro e w' ⟨r, zs, rfl, h, n, v, b⟩
  obtain ⟨a, l, c, rfl⟩ := h.shape
  exact ⟨a, l, c, rfl, ⟨zs, h, n, v⟩, b⟩
theorem low_any (g : Bool) (N D n : Nat) (hD : D ≠ 0) (b1 : (N : Int) < pw n) (b2 : (D : Int) < pw n) (hn : n ≤ 70000) (x : World) (a : Option Addr) (l c : Nat) (a' : Option Addr) (l' c' : Nat) (h1 : Nn x a l c (N : Int)) (h2 : Nn x a' l' c' (D : Int)) :
    Calls Tryz.prog 182 #[.bool g, .agg #[.slice a l c], .agg #[.slice a' l' c']] x (Fa (mkRat (L.sgI g (N : Int)) D) x) := by
  cases g
  · exact fa_of (Lowest_p a a' l c l' c' N D n x h1 h2 hD b1 b2 (by omega))
  · exact fa_of (LowestN_p a a' l c l' c' N D n x h1 h2 hD b1 b2 (by omega))
theorem outs {t : Rat} {n : Nat} {u v : ByteArray} {er : Int} (hQ : L.QS t n) (hn : n ≤ 70000) (hw : wrA t = (.agg #[.string u, .string v], er)) (x : World) (v1 : Value) (q : L.IsQ x v1 t) : Calls Tryz.prog 46 #[v1] x fun e w' => e = .returned (.tuple #[.agg #[.string u, .string v], .int .i64 er]) ∧ Below x.heap.size x w' := by
  have := L.Out_any v1 t n x q hQ (by omega)
  rw [hw] at this
  exact this
def Both (s : ByteArray) (w : World) : Prop := ∃ (u v : ByteArray) (er : Int), (∀ x, Below w.heap.size w x → Calls Tryz.prog 19 #[.string s] x fun e w' => e = .returned (.tuple #[.agg #[.string u, .string v], .int .i64 er]) ∧ Below x.heap.size x w') ∧ (∀ x, Below w.heap.size w x → Calls Tryz.prog 20 #[.string s] x fun e w' => e = .returned (.tuple #[.agg #[.string u, .string v], .int .i64 er]) ∧ Below x.heap.size x w')
def Pte (s : ByteArray) (w : World) (c : Int) : Prop := ∀ x, Below w.heap.size w x → Calls Tryz.prog 74 #[.string s] x (fun e w' => e = .returned (.tuple #[.agg #[.bool false, .slice none 0 0, .slice none 0 0], .int .i64 c]) ∧ Below x.heap.size x w')
def Rpe (s : ByteArray) (w : World) (c : Int) : Prop := ∀ x, Below w.heap.size w x → Calls Tryz.prog 20 #[.string s] x fun e w' => e = .returned (.tuple #[.agg #[.string ⟨#[]⟩, .string ⟨#[]⟩], .int .i64 c]) ∧ Below x.heap.size x w'
theorem both_err {s : ByteArray} {w : World} {c : Int} (hs : ¬ (s.size : Int) > 65536) (hc : (c != 0) = true) (P : Pte s w c) (R : Rpe s w c) : Both s w :=
  ⟨⟨#[]⟩, ⟨#[]⟩, c, fun x b => PP_err s c x hs hc (fun y b' => P y (bel' b b')), R⟩
theorem both_ok {s : ByteArray} {w : World} {t : Rat} {n : Nat} (hs : ¬ (s.size : Int) > 65536) (G : Gw w) (hp : PS t n) (hn : n ≤ 70000) (P : ∀ x, Below w.heap.size w x → Calls Tryz.prog 74 #[.string s] x (Fr t x))
    (R : ∀ u v er, wrA t = (.agg #[.string u, .string v], er) → ∀ x, Below w.heap.size w x → Calls Tryz.prog 20 #[.string s] x fun e w' => e = .returned (.tuple #[.agg #[.string u, .string v], .int .i64 er]) ∧ Below x.heap.size x w') : Both s w := by
  obtain ⟨u, v, er, hw⟩ : ∃ u v er, wrA t = (.agg #[.string u, .string v], er) := ⟨_, _, _, rfl⟩
  refine ⟨u, v, er, fun x b => PP_ok s u v t er x hs (fun y b' => P y (bel' b b')) (fun y v1 b' q => ?_), R u v er hw⟩
  have := Ratio_any v1 t y q (hp.mono (by omega)) (G.grow (bel' b b'))
  rw [hw] at this
  exact this
theorem nat0 {F : ByteArray} (h : natB F = true) : is0 F = decide (nv F = 0) := by
  cases c : is0 F with
  | true =>
    have e : nv F = 0 := by
      unfold is0 at c
      have := eq_of_beq c
      rw [ByteArray.toList_eq] at this
      unfold nv
      rw [this]
      rfl
    rw [decide_eq_true e]
  | false =>
    have := nat_pos h c
    rw [decide_eq_false]
    unfold nv
    omega
theorem fr_le (s : ByteArray) : fr s ≤ s.size := by
  unfold fr
  split
  · next h =>
    unfold neg at h
    have := of_decide_eq_true h
    rcases Nat.eq_zero_or_pos s.size with z | z
    · rw [bt_out (by omega)] at this; cases this
    · omega
  · omega
theorem neg_cut {s : ByteArray} {p : Nat} (h : fr s ≤ p) (hp : p ≤ s.size) : neg (s.extract 0 p) = neg s := by
  have zz : (s.extract 0 p).size = p := by rw [ByteArray.size_extract]; omega
  rcases Nat.eq_zero_or_pos p with z | z
  · have : neg s = false := by
      unfold fr at h
      cases c : neg s with
      | false => rfl
      | true => rw [c, if_pos rfl] at h; omega
    rw [this]
    unfold neg
    rw [bt_out (by omega)]
    decide
  · unfold neg
    rw [bt_in (by omega), bt_in (by omega), ByteArray.getElem_extract]
theorem fr_cut {s : ByteArray} {p : Nat} (h : fr s ≤ p) (hp : p ≤ s.size) : fr (s.extract 0 p) = fr s := by
  unfold fr
  rw [neg_cut (by unfold fr; exact h) hp]
theorem rest_cut {s : ByteArray} {i : Nat} (hp : fr s + i ≤ s.size) : rest (s.extract 0 (fr s + i)) = (rest s).extract 0 i := by
  rw [rest_ex, rest_ex, fr_cut (by omega) hp, ByteArray.extract_extract, ByteArray.extract_extract, ByteArray.size_extract]
  congr 1 <;> omega
theorem behind_cut (s : ByteArray) (i : Nat) : s.extract (fr s + i + 1) s.size = (rest s).extract (i + 1) (rest s).size := by
  rw [rest_ex, ByteArray.extract_extract, ByteArray.size_extract]
  have := fr_le s
  congr 1 <;> omega
theorem rest_len (s : ByteArray) : (rest s).size = s.size - fr s := by rw [rest_ex, ex_size]
theorem rest_get {s : ByteArray} {j : Nat} (h : j < (rest s).size) (h' : fr s + j < s.size) : (rest s)[j] = s[fr s + j] := by
  have : ∀ (u : ByteArray) (e : u = s.extract (fr s) s.size) (h : j < u.size), u[j] = s[fr s + j] := by
    rintro u rfl h
    rw [ByteArray.getElem_extract]
  exact this _ (rest_ex s) h
theorem head_not {s : ByteArray} {j : Nat} (h : j < s.size) (hf : j < fr s) : s[j].toNat = 45 := by
  unfold fr at hf
  split at hf
  · next c =>
    have : j = 0 := by omega
    subst this
    unfold neg at c
    have := of_decide_eq_true c
    rwa [bt_in h] at this
  · omega
theorem all_of {s : ByteArray} {i : Nat} {c : UInt8} (hc : c.toNat ≠ 45) (h : ∀ (j : Nat) (h : j < (rest s).size), j < i → (rest s)[j].toNat ≠ c.toNat) : ∀ (j : Nat) (h : j < s.size), j < fr s + i → s[j] ≠ c := by
  intro j hj hji e
  by_cases a : j < fr s
  · have := head_not hj a
    rw [e] at this
    exact hc this
  · have l := rest_len s
    have := h (j - fr s) (by omega) (by omega)
    rw [rest_get (by omega) (by omega)] at this
    apply this
    have q : fr s + (j - fr s) = j := by omega
    rw [← e]
    congr 1
    simp only [q]
end Go.Proofs.YtebilgnmnambnaaGreatDoor.Mo

namespace Go.Proofs.YtebilgnmnambnaaGreatDoor.Mo
open Go.RowKit Tn Dc
theorem wh_is {s : ByteArray} {b : Bool} (h : whB s = b) (z : s.size ≤ 65536) (x : World) : Calls Tryz.prog 106 #[.string s] x fun e w' => e = .returned (.bool b) ∧ Below x.heap.size x w' := by
  have := IsWhole_any s x (by omega)
  rwa [h] at this
theorem na_is {s : ByteArray} {b : Bool} (h : natB s = b) (z : s.size ≤ 65536) (x : World) : Calls Tryz.prog 107 #[.string s] x fun e w' => e = .returned (.bool b) ∧ w' = x := by
  have := IsNatural_any s x (by omega)
  rwa [h] at this
theorem bd_is {s : ByteArray} {b : Bool} (h : natB s = b) (z : s.size ≤ 65536) (x : World) : Calls Tryz.prog 75 #[.string s] x fun e w' => e = .returned (.bool b) ∧ w' = x := by
  have := BDigits_any s x (by omega)
  rwa [h] at this
theorem cs_is {A : ByteArray} {g : Bool} {F : ByteArray} (h1 : neg A = g) (h2 : rest A = F) (z : A.size ≤ 65536) (x : World) : Calls Tryz.prog 108 #[.string A] x fun e w' => e = .returned (.tuple #[.bool g, .string F]) ∧ Below x.heap.size x w' := by
  have := CutSign_any A x (by omega)
  rwa [h1, h2] at this
theorem hg_of (s : ByteArray) (h0 : 0 < s.size) : (((s[0].toNat : Int)) == 45) = neg s := by
  unfold neg
  rw [bt_in h0, Bool.eq_iff_iff, beq_iff_eq, decide_eq_true_iff]
  omega
theorem dec_z (n : Nat) : decide ((n : Int) = 0) = decide (n = 0) := decide_eq_decide.2 (by omega)
theorem wh_of {A : ByteArray} {g : Bool} {F : ByteArray} (h1 : neg A = g) (h2 : rest A = F) (h : natB F = true) : whB A = !(g && decide (nv F = 0)) := by
  unfold whB
  rw [h1, h2, h, nat0 h]
  rfl
theorem wh_no {A : ByteArray} (h : natB (rest A) = false) : whB A = false := by
  unfold whB
  rw [h]
  rfl
theorem one_k {K : Nat} (h : 65536 < K) : (1 : Int) < Tl.pw K ∧ (1 : Int) < Tn.pw K := by
  have a := dec_tl (n := K) (k := 0) (by omega)
  have b := dec_tn (n := K) (k := 0) (by omega)
  rw [Nat.pow_zero] at a b
  exact ⟨a, b⟩
theorem both_none (s : ByteArray) (m : Int) (w : World) (G : Gw w) (hs : ¬ (s.size : Int) > 65536) (h0 : 0 < s.size) (hm : w.cell? ⟨3, 0, none⟩ = some (.int .i64 m))
    (HB : ∀ (j : Nat) (h : j < (rest s).size), j < (rest s).size → (rest s)[j].toNat ≠ 47 ∧ (rest s)[j].toNat ≠ 46) : Both s w := by
  have rl := rest_len s
  have fl := fr_le s
  have z : s.size ≤ 65536 := by omega
  obtain ⟨K, hK, hK'⟩ : ∃ K, 65536 < K ∧ K ≤ 70000 := ⟨65537, by decide, by decide⟩
  have hM : ∀ x, Below w.heap.size w x → x.cell? ⟨3, 0, none⟩ = some (.int .i64 m) := fun x b => (b.cell (World.block_lt_of_cell? w _ hm)).trans hm
  have n47 : ∀ (j : Nat) (h : j < s.size), s[j] ≠ 47 := fun j h => all_of (c := 47) (i := (rest s).size) (by decide) (fun j h a => (HB j h a).1) j h (by omega)
  have n46 : ∀ (j : Nat) (h : j < s.size), s[j] ≠ 46 := fun j h => all_of (c := 46) (i := (rest s).size) (by decide) (fun j h a => (HB j h a).2) j h (by omega)
  have C1 := fun x b => Cut_none s 47 m x z (hM x b) n47
  have C2 := fun x b => Cut_none s 46 m x z (hM x b) n46
  have hg := hg_of s h0
  have zr : (rest s).size ≤ 65536 := by omega
  cases a : natB (rest s) with
  | false =>
    exact both_err (c := 2) hs (by decide) (fun x b => PT_plain_err s _ _ _ _ 2 x (fun y b' => C1 y (bel' b b')) (fun y b' => C2 y (bel' b b')) (fun y _ => PQ_form1 s ⟨#[49]⟩ y (wh_is (wh_no a) z))) (fun x b => RP_front_none s (rest s) (neg s) (rest s).size x h0 hs hg rfl (Nat.le_refl _) HB rfl (bd_is a zr))
  | true =>
    have wz := wh_of (A := s) rfl rfl a
    have dg := natB_dg a
    have R1 := read_nl (rest s) dg zr
    cases c : (neg s && decide (nv (rest s) = 0)) with
    | true =>
      rw [c] at wz
      exact both_err (c := 2) hs (by decide) (fun x b => PT_plain_err s _ _ _ _ 2 x (fun y b' => C1 y (bel' b b')) (fun y b' => C2 y (bel' b b')) (fun y _ => PQ_form1 s ⟨#[49]⟩ y (wh_is wz z))) (fun x b => RP_none_form s (rest s) (neg s) (rest s).size _ _ x h0 hs hg rfl (Nat.le_refl _) HB rfl (dec_z _) c (bd_is a zr) R1)
    | false =>
      rw [c] at wz
      have z1 : (⟨#[49]⟩ : ByteArray).size ≤ 65536 := by decide
      have d1 : natB ⟨#[49]⟩ = true := by decide
      have e1 : nv ⟨#[49]⟩ = 1 := by decide
      have P1 := parse_nn ⟨#[49]⟩ (natB_dg d1) z1
      simp only [e1] at P1
      have k3 := nv_tl (n := K) dg (by omega)
      have k1 := nv_tn (n := K) dg (by omega)
      obtain ⟨k4, k2⟩ := one_k hK
      have QQ := mk_both (neg s) (nv (rest s)) 1 K (by decide) k1 k2 k3 k4
      exact both_ok (n := K) hs G QQ.1 hK' (fun x b => PT_plain_ok s _ _ _ _ _ x (fun y b' => C1 y (bel' b b')) (fun y b' => C2 y (bel' b b')) (fun y _ => PQ_ok s ⟨#[49]⟩ (rest s) (neg s) (nv (rest s)) ((1 : Nat) : Int) _ y (by rw [ByteArray.toList_eq]; rfl) (wh_is wz z) (na_is d1 z1) (cs_is rfl rfl z) (parse_nn (rest s) dg zr) P1 (low_any (neg s) (nv (rest s)) 1 K (by decide) k1 k2 hK')))
        (fun u v er hw x b => RP_none_ok s (rest s) (neg s) (rest s).size u v (nv (rest s)) _ _ er x h0 hs hg rfl (Nat.le_refl _) HB rfl (dec_z _) c (bd_is a zr) R1 (fun y a l c a' l' c' q1 q2 => make_nl (K := K) (neg s) q1 q2 k3 k4 (by omega) (by decide)) (outs QQ.2 hK' hw))
end Go.Proofs.YtebilgnmnambnaaGreatDoor.Mo

namespace Go.Proofs.YtebilgnmnambnaaGreatDoor.Mo
open Go.RowKit Tn Dc
theorem byte_of {s : ByteArray} {i p : Nat} {c : UInt8} (h : i < (rest s).size) (hp : fr s + i = p) (h' : p < s.size) (e : (rest s)[i].toNat = c.toNat) : s[p] = c := by
  subst hp
  rw [rest_get h h'] at e
  exact UInt8.toNat_inj.1 e
set_option maxHeartbeats 1600000 in
theorem both_slash (s : ByteArray) (i : Nat) (m : Int) (w : World) (G : Gw w) (hs : ¬ (s.size : Int) > 65536) (h0 : 0 < s.size) (hm : w.cell? ⟨3, 0, none⟩ = some (.int .i64 m))
    (hi : i < (rest s).size) (hc : (rest s)[i].toNat = 47)
    (HB : ∀ (j : Nat) (h : j < (rest s).size), j < i → (rest s)[j].toNat ≠ 47 ∧ (rest s)[j].toNat ≠ 46) : Both s w := by
  have rl := rest_len s
  have fl := fr_le s
  have z : s.size ≤ 65536 := by omega
  obtain ⟨K, hK, hK'⟩ : ∃ K, 65536 < K ∧ K ≤ 70000 := ⟨65537, by decide, by decide⟩
  have hM : ∀ x, Below w.heap.size w x → x.cell? ⟨3, 0, none⟩ = some (.int .i64 m) := fun x b => (b.cell (World.block_lt_of_cell? w _ hm)).trans hm
  have n47 : ∀ (j : Nat) (h : j < s.size), j < fr s + i → s[j] ≠ 47 := all_of (c := 47) (i := i) (by decide) (fun j h a => (HB j h a).1)
  have C1 := fun x b => Cut_at s 47 (fr s + i) m x z (hM x b) (by omega) (byte_of (c := 47) hi rfl (by omega) hc) n47
  rw [behind_cut s i] at C1
  have A1 := neg_cut (s := s) (p := fr s + i) (by omega) (by omega)
  have A2 := rest_cut (s := s) (i := i) (by omega)
  have hg := hg_of s h0
  have zA : (s.extract 0 (fr s + i)).size ≤ 65536 := by rw [ByteArray.size_extract]; omega
  have zF : ((rest s).extract 0 i).size ≤ 65536 := by rw [ByteArray.size_extract]; omega
  have zB : ((rest s).extract (i + 1) (rest s).size).size ≤ 65536 := by rw [ByteArray.size_extract]; omega
  obtain ⟨F, hF⟩ : ∃ F, (rest s).extract 0 i = F := ⟨_, rfl⟩
  obtain ⟨B, hB⟩ : ∃ B, (rest s).extract (i + 1) (rest s).size = B := ⟨_, rfl⟩
  obtain ⟨A, hA⟩ : ∃ A, s.extract 0 (fr s + i) = A := ⟨_, rfl⟩
  rw [hF] at A2 zF
  rw [hB] at C1 zB
  rw [hA] at A1 A2 C1 zA
  have hil := Nat.le_of_lt hi
  cases a : natB F with
  | false =>
    exact both_err (c := 2) hs (by decide) (fun x b => PT_slash_err s _ _ 2 x (fun y b' => C1 y (bel' b b')) (fun y _ => PQ_form1 A B y (wh_is (wh_no (by rw [A2]; exact a)) zA))) (fun x b => RP_front_slash s (rest s) (neg s) i F B x h0 hs hg rfl hil HB hF hi hc hB (bd_is a zF))
  | true =>
    have wz := wh_of A1 A2 a
    have dg := natB_dg a
    have R1 := read_nl F dg zF
    cases d : natB B with
    | false =>
      refine both_err (c := 2) hs (by decide) (fun x b => PT_slash_err s _ _ 2 x (fun y b' => C1 y (bel' b b')) (fun y _ => ?_)) (fun x b => RP_slash_bad s (rest s) (neg s) i F B _ x h0 hs hg rfl hil HB hF hi hc hB (bd_is a zF) R1 (bd_is d zB))
      cases e : whB A with
      | false => exact PQ_form1 A B y (wh_is e zA)
      | true => exact PQ_form2 A B y (wh_is e zA) (na_is d zB)
    | true =>
      have dg2 := natB_dg d
      have R2 := read_nl B dg2 zB
      cases c : (neg s && decide (nv F = 0)) with
      | true =>
        rw [c] at wz
        exact both_err (c := 2) hs (by decide) (fun x b => PT_slash_err s _ _ 2 x (fun y b' => C1 y (bel' b b')) (fun y _ => PQ_form1 A B y (wh_is wz zA))) (fun x b => RP_slash_form s (rest s) (neg s) i F B _ _ _ x h0 hs hg rfl hil HB hF hi hc hB (dec_z _) c (bd_is a zF) R1 (bd_is d zB) R2)
      | false =>
        rw [c] at wz
        have i0 := nat0 d
        by_cases q : nv B = 0
        · rw [decide_eq_true q] at i0
          exact both_err (c := 4) hs (by decide) (fun x b => PT_slash_err s _ _ 4 x (fun y b' => C1 y (bel' b b')) (fun y _ => PQ_zero A B y i0 (wh_is wz zA) (na_is d zB))) (fun x b => RP_slash_zero s (rest s) (neg s) i F B _ _ _ x h0 hs hg rfl hil HB hF hi hc hB (dec_z _) c (by rw [dec_z]; exact decide_eq_true q) (bd_is a zF) R1 (bd_is d zB) R2)
        · rw [decide_eq_false q] at i0
          have k3 := nv_tl (n := K) dg (by omega)
          have k1 := nv_tn (n := K) dg (by omega)
          have k4 := nv_tl (n := K) dg2 (by omega)
          have k2 := nv_tn (n := K) dg2 (by omega)
          have QQ := mk_both (neg s) (nv F) (nv B) K q k1 k2 k3 k4
          exact both_ok (n := K) hs G QQ.1 hK' (fun x b => PT_slash_ok s _ _ _ x (fun y b' => C1 y (bel' b b')) (fun y _ => PQ_ok A B F (neg s) (nv F) (nv B) _ y i0 (wh_is wz zA) (na_is d zB) (cs_is A1 A2 zA) (parse_nn F dg zF) (parse_nn B dg2 zB) (low_any (neg s) (nv F) (nv B) K q k1 k2 hK')))
            (fun u v er hw x b => RP_slash_ok s (rest s) (neg s) i F B u v (nv F) (nv B) _ _ er x h0 hs hg rfl hil HB hF hi hc hB (dec_z _) c (by rw [dec_z]; exact decide_eq_false q) (bd_is a zF) R1 (bd_is d zB) R2 (fun y a l c a' l' c' q1 q2 => by have := make_nl (K := K) (neg s) q1 q2 k3 k4 (by omega) (by omega); rwa [Int.toNat_natCast] at this) (outs QQ.2 hK' hw))
set_option maxHeartbeats 1600000 in
theorem both_mixed (s : ByteArray) (i p : Nat) (m : Int) (w : World) (hs : ¬ (s.size : Int) > 65536) (h0 : 0 < s.size) (hm : w.cell? ⟨3, 0, none⟩ = some (.int .i64 m))
    (hi : i < (rest s).size) (hc : (rest s)[i].toNat = 46)
    (HB : ∀ (j : Nat) (h : j < (rest s).size), j < i → (rest s)[j].toNat ≠ 47 ∧ (rest s)[j].toNat ≠ 46)
    (hp : p < s.size) (hq : s[p] = 47) (hn : ∀ (j : Nat) (h : j < s.size), j < p → s[j] ≠ 47) : Both s w := by
  have rl := rest_len s
  have fl := fr_le s
  have z : s.size ≤ 65536 := by omega
  have hM : ∀ x, Below w.heap.size w x → x.cell? ⟨3, 0, none⟩ = some (.int .i64 m) := fun x b => (b.cell (World.block_lt_of_cell? w _ hm)).trans hm
  have n47 : ∀ (j : Nat) (h : j < s.size), j < fr s + i → s[j] ≠ 47 := all_of (c := 47) (i := i) (by decide) (fun j h a => (HB j h a).1)
  have hpi : fr s + i < p := by
    rcases Nat.lt_trichotomy p (fr s + i) with l | l | l
    · exact absurd hq (n47 p hp l)
    · have := byte_of (c := 46) hi rfl (by omega) hc
      subst l
      rw [this] at hq
      cases hq
    · exact l
  have C1 := fun x b => Cut_at s 47 p m x z (hM x b) hp hq hn
  have hg := hg_of s h0
  have zA : (s.extract 0 p).size ≤ 65536 := by rw [ByteArray.size_extract]; omega
  have zF : ((rest s).extract 0 i).size ≤ 65536 := by rw [ByteArray.size_extract]; omega
  have zB : ((rest s).extract (i + 1) (rest s).size).size ≤ 65536 := by rw [ByteArray.size_extract]; omega
  have A2 := rest_cut (s := s) (i := p - fr s) (by omega)
  rw [show fr s + (p - fr s) = p by omega] at A2
  have nA : natB (rest (s.extract 0 p)) = false := by
    cases c : natB (rest (s.extract 0 p)) with
    | false => rfl
    | true =>
      rw [A2] at c
      have sz : i < ((rest s).extract 0 (p - fr s)).size := by rw [ByteArray.size_extract]; omega
      refine absurd (natB_digs c) (not_digs sz (Or.inr ?_))
      rw [ByteArray.getElem_extract]
      simpa using hc
  have nB : ¬ Digs ((rest s).extract (i + 1) (rest s).size) := by
    have sz : p - fr s - i - 1 < ((rest s).extract (i + 1) (rest s).size).size := by rw [ByteArray.size_extract]; omega
    refine not_digs sz (Or.inl ?_)
    rw [ByteArray.getElem_extract]
    have e : i + 1 + (p - fr s - i - 1) = p - fr s := by omega
    simp only [e]
    rw [rest_get (by omega) (by omega)]
    have e' : fr s + (p - fr s) = p := by omega
    simp only [e']
    rw [hq]
    decide
  have PP : Pte s w 2 := fun x b => PT_slash_err s _ _ 2 x (fun y b' => C1 y (bel' b b')) (fun y _ => PQ_form1 _ _ y (wh_is (wh_no nA) zA))
  obtain ⟨F, hF⟩ : ∃ F, (rest s).extract 0 i = F := ⟨_, rfl⟩
  obtain ⟨B, hB⟩ : ∃ B, (rest s).extract (i + 1) (rest s).size = B := ⟨_, rfl⟩
  rw [hF] at zF
  rw [hB] at nB zB
  have hil := Nat.le_of_lt hi
  cases a : natB F with
  | false => exact both_err (c := 2) hs (by decide) PP (fun x b => RP_front_point s (rest s) (neg s) i F B x h0 hs hg rfl hil HB hF hi hc hB (bd_is a zF))
  | true => exact both_err (c := 2) hs (by decide) PP (fun x b => RP_point_bad s (rest s) (neg s) i F B _ x h0 hs hg rfl hil HB hF hi hc hB (bd_is a zF) (read_nl F (natB_dg a) zF) (fun y => RAll_no B y (by omega) nB))
end Go.Proofs.YtebilgnmnambnaaGreatDoor.Mo

namespace Go.Proofs.YtebilgnmnambnaaGreatDoor.Mo
open Go.RowKit Tn Dc
theorem num0 (g : Bool) (x d : Nat) (hd : d ≠ 0) : decide (((mkRat (L.sgI g (x : Int)) d).num.natAbs : Int) = 0) = decide (x = 0) := by
  refine decide_eq_decide.2 ?_
  have a : (mkRat (L.sgI g (x : Int)) d).num = 0 ↔ L.sgI g (x : Int) = 0 := by
    exact ⟨fun h => (Rat.mkRat_eq_zero hd).1 (by rw [← Rat.mkRat_self (mkRat _ d), h, Rat.zero_mkRat]), fun h => by rw [h, Rat.zero_mkRat]; rfl⟩
  have b : L.sgI g (x : Int) = 0 ↔ x = 0 := by
    unfold L.sgI
    split <;> omega
  rw [← b, ← a]
  omega
theorem ten_pow (k n : Nat) (h : k ≤ n) : 10 ^ n = 10 ^ k * 10 ^ (n - k) := by
  rw [← Nat.pow_add]
  congr 1
  omega
theorem val_scale (F B : ByteArray) (k : Nat) (hk : k ≤ B.size) (h : ∀ (j : Nat) (h : j < B.size), k ≤ j → B[j] = 48) : nv F * 10 ^ B.size + nv B = nv (F ++ B.extract 0 k) * 10 ^ (B.size - k) := by
  have zz : (B.extract 0 k).size = k := by rw [ByteArray.size_extract]; omega
  rw [nv_app, zz, nv_trim B k hk h, ten_pow k B.size hk, Nat.add_mul, ← Nat.mul_assoc]
set_option maxRecDepth 100000 in
set_option maxHeartbeats 3200000 in
theorem both_point (s : ByteArray) (i : Nat) (m : Int) (w : World) (G : Gw w) (hs : ¬ (s.size : Int) > 65536) (h0 : 0 < s.size) (hm : w.cell? ⟨3, 0, none⟩ = some (.int .i64 m))
    (hi : i < (rest s).size) (hc : (rest s)[i].toNat = 46)
    (HB : ∀ (j : Nat) (h : j < (rest s).size), j < i → (rest s)[j].toNat ≠ 47 ∧ (rest s)[j].toNat ≠ 46)
    (n47 : ∀ (j : Nat) (h : j < s.size), s[j] ≠ 47) : Both s w := by
  have rl := rest_len s
  have fl := fr_le s
  have z : s.size ≤ 65536 := by omega
  obtain ⟨K, hK, hK'⟩ : ∃ K, 65536 < K ∧ K ≤ 70000 := ⟨65537, by decide, by decide⟩
  have hM : ∀ x, Below w.heap.size w x → x.cell? ⟨3, 0, none⟩ = some (.int .i64 m) := fun x b => (b.cell (World.block_lt_of_cell? w _ hm)).trans hm
  have n46 : ∀ (j : Nat) (h : j < s.size), j < fr s + i → s[j] ≠ 46 := all_of (c := 46) (i := i) (by decide) (fun j h a => (HB j h a).2)
  have C1 := fun x b => Cut_none s 47 m x z (hM x b) n47
  have C2 := fun x b => Cut_at s 46 (fr s + i) m x z (hM x b) (by omega) (byte_of (c := 46) hi rfl (by omega) hc) n46
  rw [behind_cut s i] at C2
  have A1 := neg_cut (s := s) (p := fr s + i) (by omega) (by omega)
  have A2 := rest_cut (s := s) (i := i) (by omega)
  have hg := hg_of s h0
  have zA : (s.extract 0 (fr s + i)).size ≤ 65536 := by rw [ByteArray.size_extract]; omega
  have zF : ((rest s).extract 0 i).size = i := by rw [ByteArray.size_extract]; omega
  have zB : ((rest s).extract (i + 1) (rest s).size).size = (rest s).size - (i + 1) := by rw [ByteArray.size_extract]; omega
  obtain ⟨F, hF⟩ : ∃ F, (rest s).extract 0 i = F := ⟨_, rfl⟩
  obtain ⟨B, hB⟩ : ∃ B, (rest s).extract (i + 1) (rest s).size = B := ⟨_, rfl⟩
  obtain ⟨A, hA⟩ : ∃ A, s.extract 0 (fr s + i) = A := ⟨_, rfl⟩
  rw [hF] at A2 zF
  rw [hB] at C2 zB
  rw [hA] at A1 A2 C2 zA
  have hil := Nat.le_of_lt hi
  have CS := cs_is A1 A2 zA
  cases a : natB F with
  | false =>
    exact both_err (c := 2) hs (by decide) (fun x b => PT_point_err s _ _ _ _ 2 x (fun y b' => C1 y (bel' b b')) (fun y b' => C2 y (bel' b b')) (fun y _ => PD_form1 A B F (neg s) y CS (na_is a (by omega)))) (fun x b => RP_front_point s (rest s) (neg s) i F B x h0 hs hg rfl hil HB hF hi hc hB (bd_is a (by omega)))
  | true =>
    have dg := natB_dg a
    have R1 := read_nl F dg (by omega)
    by_cases dB : Digs B
    · have dg2 := digs_dg dB
      have R2 := read_nl B dg2 (by omega)
      obtain ⟨k, k1, k2, TR⟩ := TrimRight_at B (by omega)
      have zb : (B.extract 0 k).size = k := by rw [ByteArray.size_extract]; omega
      have dgU := dg_app dg (dg_cut dg2 k)
      have zU : (F ++ B.extract 0 k).size ≤ 65536 := by rw [ByteArray.size_append]; omega
      have vs := val_scale F B k k1 k2
      have tp := ten_pow k B.size k1
      have c0 : 10 ^ (B.size - k) ≠ 0 := Nat.ne_of_gt (Nat.pow_pos (by decide))
      have d0 : 10 ^ k ≠ 0 := Nat.ne_of_gt (Nat.pow_pos (by decide))
      have t0 : 10 ^ B.size ≠ 0 := Nat.ne_of_gt (Nat.pow_pos (by decide))
      have u3 := nv_tl (n := K) dgU (by omega)
      have u1 := nv_tn (n := K) dgU (by omega)
      have u4 := dec_tl (n := K) (k := k) (by omega)
      have u2 := dec_tn (n := K) (k := k) (by omega)
      have v1 := nv_tl (n := K) (dg_app dg dg2) (by rw [ByteArray.size_append]; omega)
      rw [nv_app] at v1
      have v2 := dec_tl (n := K) (k := B.size) (by omega)
      have v3 := nv_tl (n := K) dg (by omega)
      have v4 := nv_tl (n := K) dg2 (by omega)
      have PO : ∀ (x : World) (a : Option Addr) (l c : Nat), Nn x a l c 10 → Calls Tryz.prog 66 #[.agg #[.slice a l c], .int .i64 ((B.extract 0 k).size : Int)] x fun e w' => ∃ a l c, e = .returned (.agg #[.slice a l c]) ∧ Nn w' a l c ((10 ^ k : Nat) : Int) ∧ Below x.heap.size x w' := fun x a l c q => by
        rw [zb]
        exact Pow_n a l c 10 k x q (by omega) (K := K) (one_k hK).2 (by omega) u2
      have PA := parse_nn _ dgU zU
      have TE : ∀ x, Calls Tryz.prog 70 #[.int .i64 (((rest s).size - (i + 1) : Nat) : Int)] x fun e w' => ∃ a l c, e = .returned (.slice a l c) ∧ Nl w' a l c ((10 ^ B.size : Nat) : Int) ∧ Below x.heap.size x w' := fun x => by
        rw [← zB]
        exact Ten_n B.size K x (by omega) v2 (one_k hK).1 (by omega)
      have QQ := mk_both (neg s) (nv (F ++ B.extract 0 k)) (10 ^ k) K d0 u1 u2 u3 u4
      have sc := mk_scale (neg s) (nv (F ++ B.extract 0 k)) (10 ^ k) (10 ^ (B.size - k)) c0
      rw [← vs, ← tp] at sc
      have N0 := num0 (neg s) (nv (F ++ B.extract 0 k)) (10 ^ k) d0
      have V0 : (nv F * 10 ^ B.size + nv B = 0) ↔ nv (F ++ B.extract 0 k) = 0 := by
        rw [vs, Nat.mul_eq_zero]
        exact ⟨fun h => h.resolve_right c0, Or.inl⟩
      have DI := bd_is a (by omega)
      have AL := fun y => RAll_yes B y (by omega) dB
      have NA := na_is a (by omega)
      have DG := fun y => isDigits_yes B y (by omega) dB
      clear vs tp c0
      generalize 10 ^ k = D at *
      generalize 10 ^ B.size = T at *
      generalize hb : B.extract 0 k = b' at *
      generalize hU : F ++ b' = U at *
      have MU : ∀ (x : World) a l c a' l' c', Nl x a l c (nv F : Int) → Nl x a' l' c' (T : Int) → Calls Tryz.prog 78 #[.slice a l c, .slice a' l' c'] x fun e w' => ∃ a l c, e = .returned (.slice a l c) ∧ Nl w' a l c ((nv F * T : Nat) : Int) ∧ Below x.heap.size x w' := fun x a l c a' l' c' q1 q2 => by
        have := mul_nl (K := K) q1 q2 v3 v2 (by omega)
        rwa [← Int.natCast_mul] at this
      have AD : ∀ (x : World) a l c a' l' c', Nl x a l c ((nv F * T : Nat) : Int) → Nl x a' l' c' (nv B : Int) → Calls Tryz.prog 79 #[.slice a l c, .slice a' l' c'] x fun e w' => ∃ a l c, e = .returned (.slice a l c) ∧ Nl w' a l c ((nv F * T + nv B : Nat) : Int) ∧ Below x.heap.size x w' := fun x a l c a' l' c' q1 q2 => by
        have := add_nl (K := K) q1 q2 (by generalize nv F * T = P at *; omega) v4 (by omega)
        rwa [← Int.natCast_add] at this
      have MK : ∀ (x : World) a l c a' l' c', Nl x a l c ((nv F * T + nv B : Nat) : Int) → Nl x a' l' c' (T : Int) → Calls Tryz.prog 80 #[.bool (neg s), .slice a l c, .slice a' l' c'] x (Qf (mkRat (L.sgI (neg s) (nv U : Int)) D) x) := fun x a l c a' l' c' q1 q2 => by
        have := make_nl (K := K) (neg s) q1 q2 v1 v2 (by omega) (by omega)
        rw [Int.toNat_natCast] at this
        rwa [sc] at this
      have hT : decide ((T : Int) = 0) = false := by rw [dec_z]; exact decide_eq_false t0
      generalize nv F * T + nv B = V at *
      have LO := low_any (neg s) (nv U) D K d0 u1 u2 hK'
      have zz : F.size + b'.size ≤ 9223372036854775807 := by omega
      cases c : (neg s && decide (V = 0)) with
      | true =>
        rw [Bool.and_eq_true] at c
        have nU : nv U = 0 := V0.1 (of_decide_eq_true c.2)
        rw [decide_eq_true nU] at N0
        have IZ := fun (x : World) (a : Option Addr) (l c : Nat) (q : Nn x a l c ((mkRat (L.sgI (neg s) (nv U : Int)) D).num.natAbs : Int)) => IsZero_n q
        rw [N0] at IZ
        have c' : (neg s && decide (V = 0)) = true := by rw [Bool.and_eq_true]; exact c
        rw [c.1] at CS LO IZ
        exact both_err (c := 2) hs (by decide) (fun x b => PT_point_err s _ _ _ _ 2 x (fun y b' => C1 y (bel' b b')) (fun y b' => C2 y (bel' b b')) (fun y _ => PD_zero A B F b' U (nv U) D _ y hU zz CS NA DG TR PA ten_nn PO LO IZ)) (fun x b => RP_point_form s (rest s) (neg s) i F B _ _ _ _ _ _ x h0 hs hg rfl hil HB hF hi hc hB (dec_z _) c' DI R1 AL R2 TE MU AD)
      | false =>
        refine both_ok (n := K) hs G QQ.1 hK' (fun x b => PT_point_ok s _ _ _ _ _ x (fun y b' => C1 y (bel' b b')) (fun y b' => C2 y (bel' b b')) (fun y _ => ?_))
          (fun u v er hw x b => RP_point_ok s (rest s) (neg s) i F B u v _ _ _ _ _ _ _ er x h0 hs hg rfl hil HB hF hi hc hB (dec_z _) c hT DI R1 AL R2 TE MU AD MK (outs QQ.2 hK' hw))
        cases g : neg s with
        | false =>
          rw [g] at CS LO
          exact PD_plain A B F b' U (nv U) D _ y hU zz CS NA DG TR PA ten_nn PO LO
        | true =>
          rw [g] at CS LO c N0
          have nU : nv U ≠ 0 := fun e => by rw [decide_eq_true (V0.2 e)] at c; cases c
          rw [decide_eq_false nU] at N0
          have IZ := fun (x : World) (a : Option Addr) (l c : Nat) (q : Nn x a l c ((mkRat (L.sgI true (nv U : Int)) D).num.natAbs : Int)) => IsZero_n q
          rw [N0] at IZ
          exact PD_neg A B F b' U (nv U) D _ y hU zz CS NA DG TR PA ten_nn PO LO IZ
    · refine both_err (c := 2) hs (by decide) (fun x b => PT_point_err s _ _ _ _ 2 x (fun y b' => C1 y (bel' b b')) (fun y b' => C2 y (bel' b b')) (fun y _ => PD_form2 A B F (neg s) y CS (na_is a (by omega)) (fun y => isDigits_no B y (by omega) dB))) (fun x b => RP_point_bad s (rest s) (neg s) i F B _ x h0 hs hg rfl hil HB hF hi hc hB (bd_is a (by omega)) R1 (fun y => RAll_no B y (by omega) dB))
end Go.Proofs.YtebilgnmnambnaaGreatDoor.Mo

namespace Go.Proofs.YtebilgnmnambnaaGreatDoor.Mo
open Go.RowKit Fu Tn Go.Lib Dc Wt Ip
set_option maxRecDepth 100000 in
set_option maxHeartbeats 6400000 in
theorem isSameP (u v : ByteArray) (e : Int) (w : World) : Calls Tryz.prog 12 #[.agg #[.string u, .string v], .int .i64 e, .agg #[.string u, .string v], .int .i64 e] w fun e' w' => e' = .returned (.bool true) ∧ Below w.heap.size w w' := by
  have pr : Below w.heap.size w ((w.alloc (.cells #[.string u, .string v] 23)).alloc (.cells #[.string u, .string v] 23)) := ((Below.refl _ _).alloc (Nat.le_refl _) _).alloc (by simp) _
  go_enter Tryz.func12, Tryz.ntmps12
  go_wp2
  go_ret
  exact ⟨rfl, pr⟩
end Go.Proofs.YtebilgnmnambnaaGreatDoor.Mo

namespace Go.Proofs.YtebilgnmnambnaaGreatDoor.Mo
open Go.RowKit Tn Dc
theorem rest_nil : rest ⟨#[]⟩ = ⟨#[]⟩ := by decide
theorem both_Parse (s : ByteArray) {m : Int} (w : World) (G : Gw w) (hm : w.cell? ⟨3, 0, none⟩ = some (.int .i64 m)) : Both s w := by
  by_cases hs : (s.size : Int) > 65536
  · exact ⟨⟨#[]⟩, ⟨#[]⟩, 3, fun x _ => PP_long s x hs, fun x _ => RP_long s x hs⟩
  · rcases Nat.eq_zero_or_pos s.size with z | h0
    · obtain rfl : s = ⟨#[]⟩ := by
        apply ByteArray.ext
        exact Array.eq_empty_of_size_eq_zero z
      have hM : ∀ x, Below w.heap.size w x → x.cell? ⟨3, 0, none⟩ = some (.int .i64 m) := fun x b => (b.cell (World.block_lt_of_cell? w _ hm)).trans hm
      have C1 := fun x b => Cut_none ⟨#[]⟩ 47 m x (by decide) (hM x b) (fun j h => absurd h (by rw [z]; omega))
      have C2 := fun x b => Cut_none ⟨#[]⟩ 46 m x (by decide) (hM x b) (fun j h => absurd h (by rw [z]; omega))
      exact both_err (c := 2) hs (by decide) (fun x b => PT_plain_err ⟨#[]⟩ _ _ _ _ 2 x (fun y b' => C1 y (bel' b b')) (fun y b' => C2 y (bel' b b')) (fun y _ => PQ_form1 ⟨#[]⟩ ⟨#[49]⟩ y (wh_is (wh_no (by rw [rest_nil]; decide)) (by decide)))) (fun x b => RP_empty x (bd_is (by decide) (by decide)))
    · obtain ⟨i, hi, HB', hx⟩ := first_of (rest s) (fun b => b.toNat == 47 || b.toNat == 46)
      have HB : ∀ (j : Nat) (h : j < (rest s).size), j < i → (rest s)[j].toNat ≠ 47 ∧ (rest s)[j].toNat ≠ 46 := fun j h l => by
        have := HB' j h l
        simpa using this
      by_cases l : i < (rest s).size
      · have := hx l
        rw [Bool.or_eq_true, beq_iff_eq, beq_iff_eq] at this
        rcases this with c | c
        · exact both_slash s i m w G hs h0 hm l c HB
        · obtain ⟨p, hp, hn, hq⟩ := first_of s (fun b => b == 47)
          by_cases k : p < s.size
          · exact both_mixed s i p m w hs h0 hm l c HB k (by simpa using hq k) (fun j h l' => by simpa using hn j h l')
          · exact both_point s i m w G hs h0 hm l c HB (fun j h => by simpa using hn j h (by omega))
      · have e : i = (rest s).size := by omega
        subst e
        exact both_none s m w G hs h0 hm HB
set_option maxRecDepth 100000 in
set_option maxHeartbeats 6400000 in
theorem texts_walk (n d t s u v : ByteArray) (e1 e2 : Int) (w : World) (O1 : ∀ x, Below w.heap.size w x → Calls Tryz.prog 17 #[.agg #[.string n, .string d]] x fun e' w' => e' = .returned (.tuple #[.string t, .int .i64 e1]) ∧ Below x.heap.size x w') (O2 : ∀ x, Below w.heap.size w x → Calls Tryz.prog 18 #[.agg #[.string n, .string d]] x fun e' w' => e' = .returned (.tuple #[.string t, .int .i64 e1]) ∧ Below x.heap.size x w') (P1 : ∀ x, Below w.heap.size w x → Calls Tryz.prog 19 #[.string s] x fun e' w' => e' = .returned (.tuple #[.agg #[.string u, .string v], .int .i64 e2]) ∧ Below x.heap.size x w') (P2 : ∀ x, Below w.heap.size w x → Calls Tryz.prog 20 #[.string s] x fun e' w' => e' = .returned (.tuple #[.agg #[.string u, .string v], .int .i64 e2]) ∧ Below x.heap.size x w') : Calls Tryz.prog 5 #[.agg #[.string n, .string d], .string s] w fun e' w' => e' = .returned (.bool true) ∧ Below w.heap.size w w' := by
  have KA := Blk.new w #[.string n, .string d] 23
  have pr : Below w.heap.size w (w.alloc (.cells #[.string n, .string d] 23)) := (Below.refl _ _).alloc (Nat.le_refl _) _
  go_enter Tryz.func5, Tryz.ntmps5
  go_wp2_with (first
    | (go_at_call 12; (have mk5 := p4); (refine (isSameP u v e2 _).mono ?_); (rintro e w5 ⟨rfl, b5⟩); (have p5 := bel' p4 b5))
    | (go_at_call 20; (have mk4 := p3); (refine (P2 _ p3).mono ?_); (rintro e w4 ⟨rfl, b4⟩); (have al4 := (Below.refl w4.heap.size w4).alloc (Nat.le_refl _) (.cells #[.string u, .string v] 23)); (have KW := Blk.new w4 #[.string u, .string v] 23); (have bb4 := bel' b4 al4); (have p4 := bel' p3 bb4); (have KA4 := KA3.below bb4 KA3.lt); (have KZ4 := KZ.below bb4 KZ.lt); (have hKZ40 := KZ4.at 0); (have hKZ41 := KZ4.at 1); (simp at hKZ40 hKZ41); (have hKW40 := KW.at 0); (have hKW41 := KW.at 1); (simp at hKW40 hKW41))
    | (go_at_call 19; (have mk3 := p2); (refine (P1 _ p2).mono ?_); (rintro e w3 ⟨rfl, b3⟩); (have al3 := (Below.refl w3.heap.size w3).alloc (Nat.le_refl _) (.cells #[.string u, .string v] 23)); (have KZ := Blk.new w3 #[.string u, .string v] 23); (have bb3 := bel' b3 al3); (have p3 := bel' p2 bb3); (have KA3 := KA2.below bb3 KA2.lt))
    | (go_at_call 18; (have mk2 := p1); (refine (O2 _ p1).mono ?_); (rintro e w2 ⟨rfl, b2⟩); (have p2 := bel' p1 b2); (have KA2 := KA1.below b2 KA1.lt))
    | (go_at_call 17; (refine (O1 _ pr).mono ?_); (rintro e w1 ⟨rfl, b1⟩); (have p1 := bel' pr b1); (have KA1 := KA.below b1 KA.lt); (have hA0 := KA1.at 0); (have hA1 := KA1.at 1); (simp at hA0 hA1))
    | fail)
  go_ret
  exact ⟨by simp, p5⟩
theorem texts_law (n d s : ByteArray) {m : Int} (w : World) (hn : n.size ≤ 9223372036854775807) (hd : d.size ≤ 9223372036854775807) (hm : w.cell? ⟨3, 0, none⟩ = some (.int .i64 m)) (G : Gw w) : Calls Tryz.prog 5 #[.agg #[.string n, .string d], .string s] w fun e' w' => e' = .returned (.bool true) ∧ Below w.heap.size w w' := by
  obtain ⟨t, e1, O1, O2⟩ := both_Text n d w hn hd
  obtain ⟨u, v, e2, P1, P2⟩ := both_Parse s w G hm
  exact texts_walk n d t s u v e1 e2 w O1 O2 P1 P2
end Go.Proofs.YtebilgnmnambnaaGreatDoor.Mo

namespace Go.Proofs.YtebilgnmnambnaaGreatDoor.Dy
open Mo
theorem gPow : Tryz.prog.globalNamed "internal/strconv.uint64pow10" = some 2 := by kernel_rfl
theorem gw_of {w : World} (h : Go.Lib.TabIs Tryz.prog w "internal/strconv.uint64pow10" .u64 Go.Lib.pow10Tab) : Gw w := fun _ b => Go.Joins.var_stays gPow h b (Nat.le_refl _)
end Go.Proofs.YtebilgnmnambnaaGreatDoor.Dy
