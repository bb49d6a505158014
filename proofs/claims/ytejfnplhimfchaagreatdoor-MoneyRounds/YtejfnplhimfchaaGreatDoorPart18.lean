import Derived.Test.YtejfnplhimfchaaGreatDoorPart01
import Derived.Test.YtejfnplhimfchaaGreatDoorPart07
import Derived.Laws.AppendOwn
import Derived.Laws.OwnMore
import Derived.OwnWalk
import Derived.Laws.Strings
import Derived.Test.YtejfnplhimfchaaGreatDoorPart17
import Derived.Deep.RegionHeld3

namespace Go.Proofs.YtejfnplhimfchaaGreatDoor
open Go.RowKit Tn

theorem infoW : ∃ i, Tryz.prog.info? 75 = some i ∧ i.zero = some (.int .u64 0) ∧ i.size = 1 ∧ i.bytes = 8 := by
  have h : ((Tryz.prog.info? 75).map fun i => (i.zero, i.size, i.bytes)) = some (some (.int .u64 0), 1, 8) := by kernel_rfl
  obtain ⟨i, h1, h2⟩ := Option.map_eq_some_iff.1 h
  simp only [Prod.mk.injEq] at h2
  exact ⟨i, h1, h2.1, h2.2.1, h2.2.2⟩
/-- append(l, y) of words, l a row of the call's own. -/
theorem wpList_pushw {w : World} {ops : Array Oper} {rest : List Oper} {o : Oper} {a : Act} {Q : Exit → Act → World → Prop} (hgd : o.guard = none) (s x : Operand)
    (ho : o.op = .call { callee := .builtin .append, args := #[s, x], argTypes := #[46, 46] })
    (g0 cap0 : Nat) (Y : List Int) (hs : a.eval s = .slice (some ⟨g0, 0, none⟩) Y.length cap0) (base : Nat) (hown : w.ownsRow base 75 1 (.slice (some ⟨g0, 0, none⟩) Y.length cap0) Y.length (Y.map (Value.int .u64))) (hL : Y.length ≤ 1099511627776)
    (ad c : Nat) (y : Int) (hx : a.eval x = .slice (some ⟨ad, 0, none⟩) 1 c) (hn : w.cell? ⟨ad, 0, none⟩ = some (.int .u64 y)) (hbase : base ≤ w.heap.size)
    (h : ∀ g cap w', w'.ownsRow base 75 1 (.slice (some ⟨g, 0, none⟩) (Y ++ [y]).length cap) (Y ++ [y]).length ((Y ++ [y]).map (Value.int .u64)) → Below base w w' → wpList Tryz.prog ops Q rest (a.put o.dst (.slice (some ⟨g, 0, none⟩) (Y ++ [y]).length cap)) w') : wpList Tryz.prog ops Q (o :: rest) a w := by
  obtain ⟨i, hi, hz0, hz1, hz2⟩ := infoW
  refine wpList_append_own w hgd s x 46 ho base 75 i (.int .u64 0) 1 8 Tryz.underlying46 hi hz0 hz1 hz2 rfl (by decide) _ Y.length _ hs hown ⟨ad, 0, none⟩ 1 c [.int .u64 y] hx rfl ?_ (by intro u hu; simp at hu; subst hu; rfl) (by unfold maxLen; omega) (by omega) hbase ?_
  · intro j u hj
    match j, hj with
    | 0, hj => simp at hj; subst hj; simpa [Addr.add] using hn
  · intro v' w' hown' hgr hnil
    have hb : Below base w w' := by
      refine ⟨hgr.os, hgr.tape, hgr.output, hgr.size, fun k hk => hgr.block k (by omega) ?_⟩
      obtain ⟨_, hr⟩ := hown
      rcases hr with ⟨e, _⟩ | ⟨g, cap, cur, e, hb, _⟩
      · cases e
      · simp at e; simp [Value.ownBlock]; omega
    have hown2 : w'.ownsRow base 75 1 v' (Y ++ [y]).length ((Y ++ [y]).map (Value.int .u64)) := by simpa using hown'
    have hown3 := hown2
    obtain ⟨_, hr⟩ := hown2
    rcases hr with ⟨rfl, h0⟩ | ⟨g, cap, cur, rfl, _⟩
    · simp at h0
    · exact h g cap w' hown3 hb
theorem ownw_at {w : World} {base : Nat} {g cap : Nat} {Y : List Int} (h : w.ownsRow base 75 1 (.slice (some ⟨g, 0, none⟩) Y.length cap) Y.length (Y.map (Value.int .u64))) (k : Nat) (hk : k < Y.length) : w.cell? ⟨g, k, none⟩ = some (.int .u64 (nth Y k)) := by
  rw [h.cellAt k (by omega)]
  simp [nth, List.getD_eq_getElem?_getD, List.getElem?_eq_getElem hk]
theorem ownw_set {w : World} {base : Nat} {g cap : Nat} {Y : List Int} (h : w.ownsRow base 75 1 (.slice (some ⟨g, 0, none⟩) Y.length cap) Y.length (Y.map (Value.int .u64))) (k : Nat) (v : Int) : (w.setCell ⟨g, k, none⟩ (.int .u64 v)).ownsRow base 75 1 (.slice (some ⟨g, 0, none⟩) Y.length cap) Y.length ((Y.set k v).map (Value.int .u64)) := by
  have := (h.stored k (.int .u64 v)).1
  rwa [← List.map_set] at this
theorem ownw_lt {w : World} {base : Nat} {g cap n : Nat} {l : List Value} (h : w.ownsRow base 75 1 (.slice (some ⟨g, 0, none⟩) n cap) n l) : base ≤ g ∧ g < w.heap.size := h.lt g rfl
theorem ownw_cap {w : World} {base : Nat} {g cap n : Nat} {l : List Value} (h : w.ownsRow base 75 1 (.slice (some ⟨g, 0, none⟩) n cap) n l) : n ≤ cap ∧ cap ≤ 9223372036854775807 := by
  obtain ⟨_, hr⟩ := h
  rcases hr with ⟨e, _⟩ | ⟨g', cap', cur, e, _, _, h4, h5, _⟩
  · cases e
  · simp at e
    obtain ⟨rfl, rfl⟩ := e
    exact ⟨h4, by unfold maxLen at h5; omega⟩
/-- One word more of a row that is multiplied. -/
theorem mul_more {Z X : List Int} {k : Nat} {U C G lo hi : Int} (P : Part Z X k) (hk : k < X.length) (hv : val (Z.take k) + pw k * C = val (X.take k) * U + G) (l0 : 0 ≤ lo) (l1 : lo < 18446744073709551616) (he : lo + 18446744073709551616 * hi = nth X k * U + C) :
    Part (Z.set k lo) X (k + 1) ∧ val ((Z.set k lo).take (k + 1)) + pw (k + 1) * hi = val (X.take (k + 1)) * U + G := by
  refine ⟨P.step l0 l1, ?_⟩
  rw [P.val hk lo, val_at X k hk]
  simp only [pw]
  generalize pw k = p at *
  generalize val (Z.take k) = a at *
  generalize val (X.take k) = b at *
  generalize nth X k = x at *
  have : p * (lo + 18446744073709551616 * hi) = p * (x * U + C) := by rw [he]
  grind
end Go.Proofs.YtejfnplhimfchaaGreatDoor

namespace Go.Proofs.YtejfnplhimfchaaGreatDoor
open Go.RowKit Tn

def strLen : Value → Nat | .string b => b.size | _ => 0
theorem ex_to (D : ByteArray) (n : Nat) : (D.extract 0 n).data.toList = D.data.toList.take n := by simp
theorem ex_from (D : ByteArray) (n : Nat) : (D.extract n D.size).data.toList = D.data.toList.drop n := by
  have : D.size = D.data.toList.length := by rw [Array.length_toList]; rfl
  rw [this]
  simp only [ByteArray.data_extract, Array.toList_extract, List.extract_eq_take_drop]
  rw [List.take_of_length_le (by rw [List.length_drop]; omega)]
theorem own_growb {w w' : World} {base n : Nat} {e : TypeId} {v : Value} {xs : List Value} (h : w.ownsRow base e 1 v n xs) (k : Below w.heap.size w w') : w'.ownsRow base e 1 v n xs := by
  obtain ⟨h1, h2⟩ := h
  refine ⟨h1, ?_⟩
  rcases h2 with h2 | ⟨g, cap, cur, e1, e2, e3, e4⟩
  · exact Or.inl h2
  · exact Or.inr ⟨g, cap, cur, e1, e2, (k.block g (Own.lt ⟨cur, _, e3⟩)).trans e3, e4⟩
/-- Where Parse stands behind c digits. -/
structure Ps (l : List UInt8) (c : Nat) (D : ByteArray) (X : List Int) : Prop where
  le : c ≤ l.length
  rest : D.data.toList = l.drop c
  part : c = 0 ∧ X = [] ∨ (l.length - c) % 19 = 0
  wd : Wd X
  v : val X = (Dc.num (l.take c) : Int)
  len : X.length ≤ (c + 18) / 19
theorem Ps.size {l : List UInt8} {c : Nat} {D : ByteArray} {X : List Int} (h : Ps l c D X) : D.size = l.length - c := by
  have : D.size = D.data.toList.length := by rw [Array.length_toList]; rfl
  rw [this, h.rest, List.length_drop]
theorem Ps.next {l : List UInt8} {c n : Nat} {D : ByteArray} {X Y : List Int} (h : Ps l c D X) (hr : 0 < D.size) (hn : n = (D.size - 1) % 19 + 1) (hY : Wd Y) (hv : val Y = val X * 10000000000000000000 + (Dc.num ((l.drop c).take n) : Int)) (hl : Y.length ≤ X.length + 1) :
    Ps l (c + n) (D.extract n D.size) Y := by
  have hs := h.size
  have n1 : c + n ≤ l.length := by omega
  refine ⟨n1, by rw [ex_from, h.rest, List.drop_drop], Or.inr (by omega), hY, ?_, ?_⟩
  · rw [hv, h.v, List.take_add, Dc.num_append, List.length_take, List.length_drop, Nat.min_eq_left (by omega)]
    rcases h.part with ⟨rfl, _⟩ | hp
    · simp [Dc.num]
    · have : n = 19 := by omega
      subst this
      simp
  · have := h.len
    rcases h.part with ⟨rfl, rfl⟩ | hp
    · simp at hl
      omega
    · omega

set_option maxHeartbeats 800000 in
set_option maxRecDepth 100000 in
/-- whole.Parse of digits. -/
theorem Parse_any (s : ByteArray) (w : World) (hs : s.size ≤ 1000000) (hd : ∀ c ∈ s.data.toList, Dc.Dg c) :
    Calls Tryz.prog 41 #[.string s] w fun e w' => ∃ r zs, e = .returned (.agg #[r]) ∧ Rd w' r zs ∧ Nm zs ∧ val zs = (Dc.num s.data.toList : Int) ∧ zs.length ≤ s.size / 19 + 1 ∧ Below w.heap.size w w' := by
  obtain ⟨l, hl⟩ : ∃ l, s.data.toList = l := ⟨_, rfl⟩
  have HL : Hid (s.data.toList = l) := hl
  have hls : l.length = s.size := by rw [← hl, Array.length_toList]; rfl
  rw [hl] at hd ⊢
  have HD : Hid (∀ c ∈ l, Dc.Dg c) := hd
  clear hd hl
  have K := Bx.new w (.slice none 0 0) 48
  have u1 : ((s.size : Int)).tdiv 19 = (s.size : Int) / 19 := Int.tdiv_eq_ediv_of_nonneg (by omega)
  obtain ⟨i, hi, hz0, hz1, hz2⟩ := infoW
  go_enter Tryz.func41, Tryz.ntmps41
  go_wp2_with (first
    | (at_make; refine wpList_make_own _ rfl _ _ 46 rfl (w.heap.size + 1) 75 i (.int .u64 0) 1 Tryz.underlying46 hi hz0 hz1 .i64 .i64 _ (s.size / 19 + 1) rfl rfl (by omega) (by rw [hz2]; omega) (by unfold maxLen; omega) (by simp) ?_; intro w1 own1 gr1; simp only [World.size_alloc] at own1)
    | fail)
  have hb1 : Below (w.heap.size + 1) (w.alloc (.cells #[.slice none 0 0] 48)) w1 := ⟨gr1.os, gr1.tape, gr1.output, gr1.size, fun k hk => gr1.block k (by simp; omega) (by simp)⟩
  go_loopw [0, 3] (fun d v wr => ∃ (c : Nat) (D : ByteArray) (X : List Int) (g cap : Nat), d = .string D ∧ v = .slice (some ⟨g, 0, none⟩) X.length cap ∧ Ps l c D X ∧ wr.ownsRow (w.heap.size + 1) 75 1 (.slice (some ⟨g, 0, none⟩) X.length cap) X.length (X.map (Value.int .u64)) ∧ Below (w.heap.size + 1) (w.alloc (.cells #[.slice none 0 0] 48)) wr) (fun d _ _ => strLen d)
  case atStart => exact ⟨0, s, [], _, _, rfl, rfl, ⟨Nat.zero_le _, by rw [HL.out]; rfl, Or.inl ⟨rfl, rfl⟩, Wd.nil, by simp [val, Dc.num], by simp⟩, own1, hb1⟩
  case round =>
    obtain ⟨c, D, X, g, cap, rfl, rfl, P, own, hb⟩ := hrel
    have HP : Hid (Ps l c D X) := P
    have hsz := P.size
    have hXl := P.len
    have hcl := P.le
    clear P
    have gl := ownw_lt own
    have gc := ownw_cap own
    have hbs := hb.size
    have hbs' : w.heap.size + 1 ≤ wr.heap.size := by simpa using hbs
    by_cases hr : 0 < D.size
    · obtain ⟨n, hn⟩ : ∃ n, (D.size - 1) % 19 + 1 = n := ⟨_, rfl⟩
      have n1 : 1 ≤ n := by omega
      have n2 : n ≤ 19 := by omega
      have n3 : n ≤ D.size := by omega
      have v1 : ((D.size : Int) - 1).tmod 19 = ((D.size : Int) - 1) % 19 := Int.tmod_eq_emod_of_nonneg (by omega)
      have v2 : ((D.size : Int) - 1) % 19 + 1 = (n : Int) := by omega
      have n3' : (n : Int) ≤ (D.size : Int) := by omega
      obtain ⟨G, hG⟩ : ∃ G, Dc.num ((l.drop c).take n) = G := ⟨_, rfl⟩
      have PU := fun W => Tryz.strconv_ParseUint_10_at64_ok (D.extract 0 n) (by rw [ByteArray.size_extract]; omega) G (by
        rw [ex_to, HP.out.rest, ← hG]
        refine Dc.parse19B _ (fun c hc => HD.out c (List.mem_of_mem_drop (List.mem_of_mem_take hc))) ?_ (by rw [List.length_take]; omega)
        intro e
        have := congrArg List.length e
        rw [List.length_take, List.length_drop] at this
        simp at this
        omega) W
      have G1 : G < 18446744073709551616 := by
        have := Dc.num_lt ((l.drop c).take n) (fun c hc => HD.out c (List.mem_of_mem_drop (List.mem_of_mem_take hc)))
        rw [hG, List.length_take, List.length_drop, Nat.min_eq_left (by omega)] at this
        have p : 10 ^ n ≤ 10 ^ 19 := Nat.pow_le_pow_right (by decide) n2
        have e19 : (10 : Nat) ^ 19 = 10000000000000000000 := by decide
        omega
      have HG : Hid (Dc.num ((l.drop c).take n) = G) := hG
      have HN : Hid (n = (D.size - 1) % 19 + 1) := hn.symm
      have HG1 : Hid (G < 18446744073709551616) := G1
      have HSZ : Hid (D.size = l.length - c) := hsz
      have hDs : D.size ≤ s.size := by omega
      clear hG hn G1 hsz
      go_wp2_with (go_at_call 66; go_must ((with_reducible refine (PU _).mono ?_)); rintro e w2 ⟨rfl, hw2⟩; have b2 : Below wr.heap.size wr w2 := (by rcases hw2 with rfl | rfl; exact Below.refl _ _; exact Lib.bytesWorld_below _ _ _); clear hw2)
      have own2 := own_growb own b2
      have hb2 := hb.trans (b2.mono hbs')
      have gl2 := ownw_lt own2
      go_loopw [7, 36] (fun cy i wr2 => ∃ (k : Nat) (C : Int) (Z : List Int), k ≤ X.length ∧ i = .int .i64 k ∧ cy = .int .u64 C ∧ 0 ≤ C ∧ C ≤ 18446744073709551615 ∧ Hid (Part Z X k ∧ val (Z.take k) + pw k * C = val (X.take k) * 10000000000000000000 + (G : Int)) ∧ wr2.ownsRow (w.heap.size + 1) 75 1 (.slice (some ⟨g, 0, none⟩) X.length cap) X.length (Z.map (Value.int .u64)) ∧ Below (w.heap.size + 1) (w.alloc (.cells #[.slice none 0 0] 48)) wr2) (fun _ i _ => X.length - (intOf i).toNat)
      case atStart => exact ⟨0, (G : Int), X, Nat.zero_le _, rfl, rfl, by omega, by have := HG1.out; omega, ⟨Part.refl HP.out.wd 0, by simp [val, pw]⟩, own2, hb2⟩
      case round =>
        rename World => wr2
        obtain ⟨k, C, Z, hk, rfl, rfl, c0, c1, hz, own3, hb3⟩ := hrel
        have hZl : Z.length = X.length := hz.out.1.len
        by_cases hlt : k < X.length
        · have ec : wr2.cell? ⟨g, k, none⟩ = some (.int .u64 (nth X k)) := by
            rw [← hz.out.1.nth]
            have o := own3
            rw [← hZl] at o
            exact ownw_at o k (by omega)
          have ef : wr2.frozen? ⟨g, k, none⟩ = false := own3.frozenAt k
          have gl3 := ownw_lt own3
          have bx := nth_bd HP.out.wd k
          obtain ⟨x, hx⟩ : ∃ x, nth X k = x := ⟨_, rfl⟩
          have HX : Hid (nth X k = x) := hx
          rw [hx] at ec bx
          have M := fun W => mulAdd_any x 10000000000000000000 C W bx.1 bx.2 (by decide) (by decide) c0 (by omega)
          have hx63 : 0 ≤ x := bx.1
          have HB3 : Hid (Below (w.heap.size + 1) (w.alloc (.cells #[.slice none 0 0] 48)) wr2) := hb3
          clear hx bx hb3
          go_wp2_with (go_at_call 67; (with_reducible refine (M _).mono ?_); rintro e w3 ⟨lo, hi, rfl, l0, l1, i0, i1, he, hw3⟩; have hw4 := hw3.symm; subst hw4; have HE : Hid (lo + 18446744073709551616 * hi = x * 10000000000000000000 + C) := he; have i2 : hi ≤ 18446744073709551615 := (by omega); have HL1 : Hid (lo < 18446744073709551616) := l1; clear he hw3 l1 i1)
          go_roundw
          case rel =>
            have m := mul_more hz.out.1 hlt hz.out.2 l0 HL1.out (by rw [HX.out]; exact HE.out)
            refine ⟨k + 1, hi, Z.set k lo, by omega, by go_num, rfl, i0, i2, m, ?_, HB3.out.setCell (p := ⟨g, k, none⟩) gl3.1 _⟩
            have o := own3
            rw [← hZl] at o ⊢
            exact ownw_set o k lo
          case measure => simp [intOf]; omega
        · obtain rfl : k = X.length := by omega
          have V : Hid (Wd Z ∧ val Z + pw X.length * C = val X * 10000000000000000000 + (G : Int)) := by
            have := hz.out.2
            rw [List.take_length, List.take_of_length_le (by omega)] at this
            exact ⟨hz.out.1.wd, this⟩
          clear hz
          rw [← hZl] at own3 V ⊢
          have HZ : Hid (Z.length = X.length) := hZl
          have hZ2 : Z.length ≤ 1000000 := by omega
          clear hZl hXl gc gl own own2 gl2
          have gl3 := ownw_lt own3
          have hb3s : w.heap.size + 1 ≤ wr2.heap.size := by simpa using hb3.size
          by_cases hC : 0 < C
          · go_wp2_with (first
              | (at_builtin; (refine wpList_pushw rfl _ _ rfl g cap Z rfl (w.heap.size + 1) (own_growb own3 ((Below.refl _ _).alloc (Nat.le_refl _) _)) (by omega) _ _ C rfl (by simp) (by simp; omega) ?_; intro g' cap' w4 own4 b4; have hb4 := (hb3.alloc (by simpa using hb3s) _).trans b4))
              | fail)
            go_roundw
            case rel =>
              refine ⟨c + n, D.extract n D.size, Z ++ [C], g', cap', rfl, by simp, HP.out.next hr HN.out (V.out.1.append (Wd.cons c0 (by omega) Wd.nil)) ?_ (by rw [List.length_append, HZ.out]; simp), own4, hb4⟩
              rw [val_append, HG.out, ← V.out.2, HZ.out]
              simp [val]
            case measure =>
              have : (D.extract n D.size).size = D.size - n := by rw [ByteArray.size_extract]; omega
              simp only [strLen, this]
              omega
          · obtain rfl : C = 0 := by omega
            go_wp2
            go_roundw
            case rel =>
              refine ⟨c + n, D.extract n D.size, Z, g, cap, rfl, rfl, HP.out.next hr HN.out V.out.1 ?_ (by rw [HZ.out]; omega), own3, hb3⟩
              rw [HG.out, ← V.out.2]
              simp
            case measure =>
              have : (D.extract n D.size).size = D.size - n := by rw [ByteArray.size_extract]; omega
              simp only [strLen, this]
              omega
    · have hc : Hid (c = l.length) := by show _ = _; omega
      have hv : Hid (val X = (Dc.num l : Int)) := by
        show _ = _
        rw [HP.out.v, hc.out, List.take_length]
      have hxl : Hid (X.length ≤ s.size / 19 + 1) := by show _ ≤ _; omega
      have hwd : Hid (Wd X) := HP.out.wd
      have hcells : Hid (0 < X.length → ∃ b o, (some (⟨g, 0, none⟩ : Addr)) = some ⟨b, o, none⟩ ∧ Cells wr b o X) := fun _ => ⟨g, 0, rfl, fun i hi => by rw [Nat.zero_add]; exact ownw_at own i hi⟩
      have K2 : Bx wr w.heap.size (.slice none 0 0) := by
        have l0 : w.heap.size < w.heap.size + 1 := by omega
        exact ⟨(hb.cell (p := ⟨w.heap.size, 0, none⟩) l0).trans K.1, (hb.frozen (p := ⟨w.heap.size, 0, none⟩) l0).trans K.2, by obtain ⟨t, e⟩ := K.3; exact ⟨t, (hb.block _ l0).trans e⟩⟩
      have hx0 : D.size = 0 := by omega
      have HD0 : Hid (D.size = 0) := hx0
      have hr' : ¬ (0 : Int) < (D.size : Int) := by omega
      have prw : Below w.heap.size w wr := below_alloc1 hb
      clear hsz hcl hXl hx0
      go_wp2_with (go_at_call 68; (refine (trim_rd _ _ _ X _ rfl hwd.out (by omega) (by omega) hcells.out).mono ?_); rintro e w5 ⟨n5, zs, rfl, hzs, hrd, hnm, hvz, b5⟩; replace K2 := K2.below b5; have k0 := K2.1; have kf := K2.2)
      have v1 : (w5.setCell ⟨w.heap.size, 0, none⟩ (.slice (some ⟨g, 0, none⟩) n5 cap)).cell? ⟨w.heap.size, 0, none⟩ = some (.slice (some ⟨g, 0, none⟩) n5 cap) := World.cell?_setCell_same _ _ _ k0
      refine bodyPost_ret (v := .agg #[.slice (some ⟨g, 0, none⟩) n5 cap]) (by simp [results, Tryz.results41, go_sem, v1]) rfl ⟨_, zs, rfl, hrd.put (by intro b o l c e; simp at e; omega), hnm, by rw [hvz, hv.out], ?_, below_put (prw.trans (b5.mono prw.size)) (Nat.le_refl _) _⟩
      have := hxl.out
      rw [hzs, List.length_take]
      omega
end Go.Proofs.YtejfnplhimfchaaGreatDoor

namespace Go.Proofs.YtejfnplhimfchaaGreatDoor.Mo
open Go.RowKit Dc

/-- The shape of an exact number, its divisors aside. -/
def shB (n d : ByteArray) : Bool := whB n && natB d && !is0 d && !(is0 n && !is1 d)
/-- No number, and what is wrong. -/
abbrev noR (e : Int) : Value := .tuple #[.agg #[.bool false, .slice none 0 0, .slice none 0 0], .int .i64 e]
theorem bel' {w W w1 : World} (pr : Below w.heap.size w W) (b1 : Below W.heap.size W w1) : Below w.heap.size w w1 := pr.trans (b1.mono pr.size)
/-- A fraction in its own block. -/
structure Rb (W : World) (n : Nat) (a b c : Value) : Prop where
  c0 : W.cell? ⟨n, 0, none⟩ = some a
  c1 : W.cell? ⟨n, 1, none⟩ = some b
  c2 : W.cell? ⟨n, 2, none⟩ = some c
  f0 : W.frozen? ⟨n, 0, none⟩ = false
  f1 : W.frozen? ⟨n, 1, none⟩ = false
  f2 : W.frozen? ⟨n, 2, none⟩ = false
  bk : ∃ t, Blk W n #[a, b, c] t
theorem Rb.new (w : World) (a b c : Value) (t : TypeId) : Rb (w.alloc (.cells #[a, b, c] t)) w.heap.size a b c := ⟨by simp, by simp, by simp, by simp, by simp, by simp, t, Blk.new _ _ _⟩
theorem Rb.grow {w w' : World} {n : Nat} {a b c : Value} (h : Rb w n a b c) (k : Below w.heap.size w w') : Rb w' n a b c := by
  have l := L.lt_of_cell h.c0
  exact ⟨(k.cell (p := ⟨n, 0, none⟩) l).trans h.c0, (k.cell (p := ⟨n, 1, none⟩) l).trans h.c1, (k.cell (p := ⟨n, 2, none⟩) l).trans h.c2, (k.frozen (p := ⟨n, 0, none⟩) l).trans h.f0, (k.frozen (p := ⟨n, 1, none⟩) l).trans h.f1, (k.frozen (p := ⟨n, 2, none⟩) l).trans h.f2, by obtain ⟨t, e⟩ := h.bk; exact ⟨t, e.below k l⟩⟩
theorem Rb.alloc {w : World} {n : Nat} {a b c : Value} (h : Rb w n a b c) (o : Obj) : Rb (w.alloc o) n a b c := h.grow ((Below.refl _ _).alloc (Nat.le_refl _) o)
theorem Rb.put {W : World} {n : Nat} {a b c : Value} (h : Rb W n a b c) (x y z : Value) :
    (((W.setCell ⟨n, 0, none⟩ x).setCell ⟨n, 1, none⟩ y).setCell ⟨n, 2, none⟩ z).cell? ⟨n, 0, none⟩ = some x ∧ (((W.setCell ⟨n, 0, none⟩ x).setCell ⟨n, 1, none⟩ y).setCell ⟨n, 2, none⟩ z).cell? ⟨n, 1, none⟩ = some y ∧ (((W.setCell ⟨n, 0, none⟩ x).setCell ⟨n, 1, none⟩ y).setCell ⟨n, 2, none⟩ z).cell? ⟨n, 2, none⟩ = some z := by
  have h1 : (W.setCell ⟨n, 0, none⟩ x).cell? ⟨n, 1, none⟩ = some b := (World.cell?_setCell_other _ _ _ _ (by simp)).trans h.c1
  have h2 : ((W.setCell ⟨n, 0, none⟩ x).setCell ⟨n, 1, none⟩ y).cell? ⟨n, 2, none⟩ = some c := (World.cell?_setCell_other _ _ _ _ (by simp)).trans ((World.cell?_setCell_other _ _ _ _ (by simp)).trans h.c2)
  refine ⟨?_, ?_, World.cell?_setCell_same _ _ _ h2⟩
  · rw [World.cell?_setCell_other _ _ _ _ (by simp), World.cell?_setCell_other _ _ _ _ (by simp), World.cell?_setCell_same _ _ _ h.c0]
  · rw [World.cell?_setCell_other _ _ _ _ (by simp), World.cell?_setCell_same _ _ _ h1]
/-- A fraction's cells lie apart from all words. -/
theorem Rd.putF {w : World} {n : Nat} {v x y z : Value} {xs : List Int} {g : Bool} {a1 a2 : Option Addr} {n1 c1 n2 c2 : Nat} (h : Rd w v xs) (R : Rb w n (.bool g) (.slice a1 n1 c1) (.slice a2 n2 c2)) : Rd (((w.setCell ⟨n, 0, none⟩ x).setCell ⟨n, 1, none⟩ y).setCell ⟨n, 2, none⟩ z) v xs := by
  obtain ⟨t, K⟩ := R.bk
  obtain ⟨h1, a, cap, h2, h3, h4, h5⟩ := h
  refine ⟨h1, a, cap, h2, h3, h4, fun l => ?_⟩
  obtain ⟨b, o, e, c⟩ := h5 l
  have hne : b ≠ n := by
    rintro rfl
    have h0 := c 0 (by omega)
    rw [K.at] at h0
    rcases (show o + 0 = 0 ∨ o + 0 = 1 ∨ o + 0 = 2 ∨ 3 ≤ o + 0 by omega) with e | e | e | e
    · rw [e] at h0; simp at h0
    · rw [e] at h0; simp at h0
    · rw [e] at h0; simp at h0
    · rw [Array.getElem?_eq_none (by simpa using e)] at h0; simp at h0
  refine ⟨b, o, e, fun i hi => ?_⟩
  rw [World.cell?_setCell_other _ _ _ _ (by simp; try omega), World.cell?_setCell_other _ _ _ _ (by simp; try omega), World.cell?_setCell_other _ _ _ _ (by simp; try omega)]
  exact c i hi
theorem bset3 {w W : World} {n : Nat} {x y z : Value} (h : Below w.heap.size w W) (hn : w.heap.size ≤ n) : Below w.heap.size w (((W.setCell ⟨n, 0, none⟩ x).setCell ⟨n, 1, none⟩ y).setCell ⟨n, 2, none⟩ z) :=
  ((h.setCell (p := ⟨n, 0, none⟩) hn x).setCell (p := ⟨n, 1, none⟩) hn y).setCell (p := ⟨n, 2, none⟩) hn z

set_option maxHeartbeats 1600000 in
set_option maxRecDepth 100000 in
theorem Read_shape (n d : ByteArray) (w : World) (hn : n.size ≤ 9223372036854775807) (hd : d.size ≤ 9223372036854775807) (h : shB n d = false) :
    Calls Tryz.prog 17 #[.agg #[.string n, .string d]] w fun e w' => e = .returned (noR 5) ∧ Below w.heap.size w w' := by
  have W1 := fun W => IsWhole_any n W hn
  have N1 := fun W => IsNatural_any d W hd
  unfold shB is0 is1 at h
  generalize whB n = b1 at *
  generalize natB d = b2 at *
  obtain ⟨q1, h1⟩ : ∃ q, (d.toList == [48]) = q := ⟨_, rfl⟩
  obtain ⟨q2, h2⟩ : ∃ q, (n.toList == [48]) = q := ⟨_, rfl⟩
  obtain ⟨q3, h3⟩ : ∃ q, (d.toList == [49]) = q := ⟨_, rfl⟩
  rw [h1, h2, h3] at h
  have K0 : Blk _ _ _ _ := (Blk.new w #[.string n, .string d] 23).alloc (.cells #[.bool false, .slice none 0 0, .slice none 0 0] 50)
  have K1 := Rb.new (w.alloc (.cells #[.string n, .string d] 23)) (.bool false) (.slice none 0 0) (.slice none 0 0) 50
  have pr : Below w.heap.size w ((w.alloc (.cells #[.string n, .string d] 23)).alloc (.cells #[.bool false, .slice none 0 0, .slice none 0 0] 50)) := ((Below.refl _ _).alloc (Nat.le_refl _) _).alloc (by simp) _
  simp only [World.size_alloc] at K1
  have hh : b1 = false ∨ (b1 = true ∧ b2 = false) ∨ (b1 = true ∧ b2 = true ∧ q1 = true) ∨ (b1 = true ∧ b2 = true ∧ q1 = false ∧ q2 = true ∧ q3 = false) := by
    revert h; cases b1 <;> cases b2 <;> cases q1 <;> cases q2 <;> cases q3 <;> simp
  clear h
  rcases hh with rfl | ⟨rfl, rfl⟩ | ⟨rfl, rfl, rfl⟩ | ⟨rfl, rfl, rfl, rfl, rfl⟩
  all_goals
    go_enter Tryz.func17, Tryz.ntmps17
    go_wp2_with (first
      | (go_at_call 38; (refine (W1 _).mono ?_); rintro e w1 ⟨rfl, b1⟩; have k0 : w1.cell? ⟨w.heap.size, 0, none⟩ = some (.string n) := (K0.below b1 K0.lt).at 0; have k1 : w1.cell? ⟨w.heap.size, 1, none⟩ = some (.string d) := (K0.below b1 K0.lt).at 1; have R := K1.grow b1; have r0 := R.c0; have r1 := R.c1; have r2 := R.c2; have s0 := R.f0; have s1 := R.f1; have s2 := R.f2)
      | (go_at_call 39; (refine (N1 _).mono ?_); rintro e w2 ⟨rfl, rfl⟩))
    obtain ⟨F0, F1, F2⟩ := R.put (.bool false) (.slice none 0 0) (.slice none 0 0)
    exact bodyPost_ret (v := noR 5) (by simp [results, Tryz.results17, go_sem, F0, F1, F2]) rfl ⟨rfl, bset3 (bel' pr b1) (by omega)⟩

set_option maxHeartbeats 1600000 in
set_option maxRecDepth 100000 in
theorem Read_long (n d : ByteArray) (w : World) (hn : n.size ≤ 9223372036854775807) (hd : d.size ≤ 9223372036854775807) (h : shB n d = true) (hl : 4096 < (rest n).size ∨ 4096 < d.size) :
    Calls Tryz.prog 17 #[.agg #[.string n, .string d]] w fun e w' => e = .returned (noR 3) ∧ Below w.heap.size w w' := by
  have W1 := fun W => IsWhole_any n W hn
  have N1 := fun W => IsNatural_any d W hd
  have C1 := fun W => CutSign_any n W hn
  have hr := rest_size n
  unfold shB is0 is1 at h
  generalize whB n = b1 at *
  generalize natB d = b2 at *
  generalize rest n = z at *
  generalize neg n = g at *
  obtain ⟨q1, h1⟩ : ∃ q, (d.toList == [48]) = q := ⟨_, rfl⟩
  obtain ⟨q2, h2⟩ : ∃ q, (n.toList == [48]) = q := ⟨_, rfl⟩
  obtain ⟨q3, h3⟩ : ∃ q, (d.toList == [49]) = q := ⟨_, rfl⟩
  rw [h1, h2, h3] at h
  have K0 : Blk _ _ _ _ := (Blk.new w #[.string n, .string d] 23).alloc (.cells #[.bool false, .slice none 0 0, .slice none 0 0] 50)
  have K1 := Rb.new (w.alloc (.cells #[.string n, .string d] 23)) (.bool false) (.slice none 0 0) (.slice none 0 0) 50
  have pr : Below w.heap.size w ((w.alloc (.cells #[.string n, .string d] 23)).alloc (.cells #[.bool false, .slice none 0 0, .slice none 0 0] 50)) := ((Below.refl _ _).alloc (Nat.le_refl _) _).alloc (by simp) _
  simp only [World.size_alloc] at K1
  have hh : (b1 = true ∧ b2 = true ∧ q1 = false ∧ q2 = false) ∨ (b1 = true ∧ b2 = true ∧ q1 = false ∧ q2 = true ∧ q3 = true) := by
    revert h; cases b1 <;> cases b2 <;> cases q1 <;> cases q2 <;> cases q3 <;> simp
  have hh2 : ((4096 : Int) < (z.size : Int)) ∨ (¬ (4096 : Int) < (z.size : Int) ∧ (4096 : Int) < (d.size : Int)) := by omega
  clear h hl
  rcases hh with ⟨rfl, rfl, rfl, rfl⟩ | ⟨rfl, rfl, rfl, rfl, rfl⟩ <;> rcases hh2 with hz | ⟨hz, hy⟩
  all_goals
    go_enter Tryz.func17, Tryz.ntmps17
    go_wp2_with (first
      | (go_at_call 38; (refine (W1 _).mono ?_); rintro e w1 ⟨rfl, b1⟩; have k0 : w1.cell? ⟨w.heap.size, 0, none⟩ = some (.string n) := (K0.below b1 K0.lt).at 0; have k1 : w1.cell? ⟨w.heap.size, 1, none⟩ = some (.string d) := (K0.below b1 K0.lt).at 1; replace K0 := K0.below b1 K0.lt; have R := K1.grow b1; replace pr := bel' pr b1)
      | (go_at_call 39; (refine (N1 _).mono ?_); rintro e w2 ⟨rfl, rfl⟩)
      | (go_at_call 40; (refine (C1 _).mono ?_); rintro e w3 ⟨rfl, b3⟩; have k2 : w3.cell? ⟨w.heap.size, 1, none⟩ = some (.string d) := (K0.below b3 K0.lt).at 1; replace R := R.grow b3; replace pr := bel' pr b3; have r0 := R.c0; have r1 := R.c1; have r2 := R.c2; have s0 := R.f0; have s1 := R.f1; have s2 := R.f2))
    obtain ⟨F0, F1, F2⟩ := R.put (.bool false) (.slice none 0 0) (.slice none 0 0)
    exact bodyPost_ret (v := noR 3) (by simp [results, Tryz.results17, go_sem, F0, F1, F2]) rfl ⟨rfl, bset3 pr (by omega)⟩
end Go.Proofs.YtejfnplhimfchaaGreatDoor.Mo
