import Derived.Test.YtfalncbcomlelaaGreatDoorPart32
import Derived.Test.YtfalncbcomlelaaGreatDoorPart29

namespace Go.Proofs.YtfalncbcomlelaaGreatDoor.Mo
open Go.RowKit Dc

theorem ten_pw : ∀ j : Nat, ((10 ^ (16 * j) : Nat) : Int) ≤ Tn.pw j
  | 0 => by simp [Tn.pw]
  | j + 1 => by
    have ih := ten_pw j
    have p := Tn.pw_pos j
    have e : (10 : Nat) ^ (16 * (j + 1)) = 10 ^ (16 * j) * 10000000000000000 := by rw [Nat.mul_add, Nat.pow_add]
    rw [e]
    simp only [Tn.pw]
    generalize (10 : Nat) ^ (16 * j) = T at *
    omega
theorem num_pw' {s : ByteArray} (h : natB s = true) (j : Nat) (hs : s.size ≤ 16 * j) : (Dc.num s.data.toList : Int) < Tn.pw j := by
  have a := Dc.num_lt _ (natB_dg h)
  have l : s.data.toList.length = s.size := by simp
  have b : (10 : Nat) ^ s.data.toList.length ≤ 10 ^ (16 * j) := Nat.pow_le_pow_right (by decide) (by omega)
  have c := ten_pw j
  generalize (10 : Nat) ^ (16 * j) = T at *
  generalize (10 : Nat) ^ s.data.toList.length = U at *
  omega
theorem num_pw {s : ByteArray} (h : natB s = true) (hs : s.size ≤ 4096) : (Dc.num s.data.toList : Int) < Tn.pw 256 := num_pw' h 256 (by omega)
/-- The exact number that two texts say. -/
def rT (n d : ByteArray) : Rat := mkRat (if neg n then -(Dc.num (rest n).data.toList : Int) else (Dc.num (rest n).data.toList : Int)) (Dc.num d.data.toList)
structure Ok (n d : ByteArray) (r : Rat) : Prop where
  sg : decide (r.num < 0) = neg n
  nm : r.num.natAbs = Dc.num (rest n).data.toList
  dn : r.den = Dc.num d.data.toList
  s1 : (rest n).size ≤ 4096
  s2 : d.size ≤ 4096
  b1 : natB (rest n) = true
  b2 : natB d = true
theorem ok_rT {n d : ByteArray} (h : goodE n d = 0) : Ok n d (rT n d) := by
  obtain ⟨r, h1, h2, h3, h4, h5, h6, h7⟩ := good_rat h
  have e : r = rT n d := by
    unfold rT
    rw [← h1, ← h2, ← h3]
    have : (if decide (r.num < 0) = true then -(r.num.natAbs : Int) else (r.num.natAbs : Int)) = r.num := by
      by_cases c : r.num < 0
      · rw [decide_eq_true c, if_pos rfl]; omega
      · rw [decide_eq_false c, if_neg (by decide)]; omega
    rw [this, Rat.mkRat_self]
  rw [← e]
  exact ⟨h1, h2, h3, h4, h5, h6, h7⟩
theorem Ok.ps {n d : ByteArray} {r : Rat} (h : Ok n d r) : PS r 256 := ⟨by rw [h.nm]; exact num_pw h.b1 h.s1, by rw [h.dn]; exact num_pw h.b2 h.s2⟩
theorem read_ok {n d : ByteArray} (h : goodE n d = 0) (hn : n.size ≤ 9223372036854775807) (hd : d.size ≤ 9223372036854775807) (x : World) : Calls Tryz.prog 23 #[.agg #[.string n, .string d]] x (Fr (rT n d) x) := by
  refine (Read_any n d x hn hd).mono ?_
  rintro e w' ⟨b, k | k⟩
  · exact absurd h k.1
  · obtain ⟨_, v1, v2, xs, ys, rfl, r1, n1, q1, _, r2, n2, q2, _⟩ := k
    obtain ⟨a, l, c, rfl⟩ := r1.shape
    obtain ⟨a', l', c', rfl⟩ := r2.shape
    have o := ok_rT h
    rw [← o.nm] at q1
    rw [← o.dn] at q2
    exact ⟨_, a, l, c, a', l', c', rfl, ⟨a, l, c, a', l', c', by rw [o.sg], ⟨xs, r1, n1, q1⟩, ⟨ys, r2, n2, q2⟩⟩, b⟩
theorem read_no {n d : ByteArray} (h : goodE n d ≠ 0) (hn : n.size ≤ 9223372036854775807) (hd : d.size ≤ 9223372036854775807) (x : World) : Calls Tryz.prog 23 #[.agg #[.string n, .string d]] x fun e w' => e = .returned (.tuple #[.agg #[.bool false, .slice none 0 0, .slice none 0 0], .int .i64 (goodE n d)]) ∧ Below x.heap.size x w' := by
  refine (Read_any n d x hn hd).mono ?_
  rintro e w' ⟨b, k | k⟩
  · exact ⟨k.2, b⟩
  · exact absurd k.1 h
end Go.Proofs.YtfalncbcomlelaaGreatDoor.Mo
