import Derived.Test.YtebilgnmnambnaaGreatDoorPart02
import Derived.Test.YtebilgnmnambnaaGreatDoorPart16
import Derived.Laws.AppendOwn
import Derived.Laws.OwnMore
import Derived.OwnWalk
import Derived.Laws.Strings
import Derived.Test.YtebilgnmnambnaaGreatDoorPart21
import Derived.Test.YtebilgnmnambnaaGreatDoorPart22
import Derived.Deep.RegionHeld3
import Derived.Test.YtebilgnmnambnaaGreatDoorPart06

namespace Go.Proofs.YtebilgnmnambnaaGreatDoor
open Go.RowKit Tn
theorem infoW : ∃ i, Tryz.prog.info? 87 = some i ∧ i.zero = some (.int .u64 0) ∧ i.size = 1 ∧ i.bytes = 8 := by
  have h : ((Tryz.prog.info? 87).map fun i => (i.zero, i.size, i.bytes)) = some (some (.int .u64 0), 1, 8) := by kernel_rfl
  obtain ⟨i, h1, h2⟩ := Option.map_eq_some_iff.1 h
  simp only [Prod.mk.injEq] at h2
  exact ⟨i, h1, h2.1, h2.2.1, h2.2.2⟩
theorem wpList_pushw {w : World} {ops : Array Oper} {rest : List Oper} {o : Oper} {a : Act} {Q : Exit → Act → World → Prop} (hgd : o.guard = none) (s x : Operand)
    (ho : o.op = .call { callee := .builtin .append, args := #[s, x], argTypes := #[63, 63] })
    (g0 cap0 : Nat) (Y : List Int) (hs : a.eval s = .slice (some ⟨g0, 0, none⟩) Y.length cap0) (base : Nat) (hown : w.ownsRow base 87 1 (.slice (some ⟨g0, 0, none⟩) Y.length cap0) Y.length (Y.map (Value.int .u64))) (hL : Y.length ≤ 1099511627776)
    (ad c : Nat) (y : Int) (hx : a.eval x = .slice (some ⟨ad, 0, none⟩) 1 c) (hn : w.cell? ⟨ad, 0, none⟩ = some (.int .u64 y)) (hbase : base ≤ w.heap.size)
    (h : ∀ g cap w', w'.ownsRow base 87 1 (.slice (some ⟨g, 0, none⟩) (Y ++ [y]).length cap) (Y ++ [y]).length ((Y ++ [y]).map (Value.int .u64)) → Below base w w' → wpList Tryz.prog ops Q rest (a.put o.dst (.slice (some ⟨g, 0, none⟩) (Y ++ [y]).length cap)) w') : wpList Tryz.prog ops Q (o :: rest) a w := by
  obtain ⟨i, hi, hz0, hz1, hz2⟩ := infoW
  refine wpList_append_own w hgd s x 63 ho base 87 i (.int .u64 0) 1 8 Tryz.underlying63 hi hz0 hz1 hz2 rfl (by decide) _ Y.length _ hs hown ⟨ad, 0, none⟩ 1 c [.int .u64 y] hx rfl ?_ (by intro u hu; simp at hu; subst hu; rfl) (by unfold maxLen; omega) (by omega) hbase ?_
  · intro j u hj
    match j, hj with
    | 0, hj => simp at hj; subst hj; simpa [Addr.add] using hn
  · intro v' w' hown' hgr hnil
    have hb : Below base w w' := by
      refine ⟨hgr.os, hgr.tape, hgr.output, hgr.size, fun k hk => hgr.block k (by omega) ?_⟩
      obtain ⟨_, hr⟩ := hown
      rcases hr with ⟨e, _⟩ | ⟨g, cap, cur, e, hb, _⟩
      · cases e
      · simp at e; simp [Value.ownBlock]; omega
    have hown2 : w'.ownsRow base 87 1 v' (Y ++ [y]).length ((Y ++ [y]).map (Value.int .u64)) := by simpa using hown'
    have hown3 := hown2
    obtain ⟨_, hr⟩ := hown2
    rcases hr with ⟨rfl, h0⟩ | ⟨g, cap, cur, rfl, _⟩
    · simp at h0
    · exact h g cap w' hown3 hb
theorem ownw_at {w : World} {base : Nat} {g cap : Nat} {Y : List Int} (h : w.ownsRow base 87 1 (.slice (some ⟨g, 0, none⟩) Y.length cap) Y.length (Y.map (Value.int .u64))) (k : Nat) (hk : k < Y.length) : w.cell? ⟨g, k, none⟩ = some (.int .u64 (nth Y k)) := by
  rw [h.cellAt k (by omega)]
  simp [nth, List.getD_eq_getElem?_getD, List.getElem?_eq_getElem hk]
theorem ownw_set {w : World} {base : Nat} {g cap : Nat} {Y : List Int} (h : w.ownsRow base 87 1 (.slice (some ⟨g, 0, none⟩) Y.length cap) Y.length (Y.map (Value.int .u64))) (k : Nat) (v : Int) : (w.setCell ⟨g, k, none⟩ (.int .u64 v)).ownsRow base 87 1 (.slice (some ⟨g, 0, none⟩) Y.length cap) Y.length ((Y.set k v).map (Value.int .u64)) := by
  have := (h.stored k (.int .u64 v)).1
  rwa [← List.map_set] at this
theorem ownw_lt {w : World} {base : Nat} {g cap n : Nat} {l : List Value} (h : w.ownsRow base 87 1 (.slice (some ⟨g, 0, none⟩) n cap) n l) : base ≤ g ∧ g < w.heap.size := h.lt g rfl
theorem ownw_cap {w : World} {base : Nat} {g cap n : Nat} {l : List Value} (h : w.ownsRow base 87 1 (.slice (some ⟨g, 0, none⟩) n cap) n l) : n ≤ cap ∧ cap ≤ 9223372036854775807 := by
  obtain ⟨_, hr⟩ := h
  rcases hr with ⟨e, _⟩ | ⟨g', cap', cur, e, _, _, h4, h5, _⟩
  · cases e
  · simp at e
    obtain ⟨rfl, rfl⟩ := e
    exact ⟨h4, by unfold maxLen at h5; omega⟩
theorem mul_more {Z X : List Int} {k : Nat} {U C G lo hi : Int} (P : Part Z X k) (hk : k < X.length) (hv : val (Z.take k) + pw k * C = val (X.take k) * U + G) (l0 : 0 ≤ lo) (l1 : lo < 18446744073709551616) (he : lo + 18446744073709551616 * hi = nth X k * U + C) :
    Part (Z.set k lo) X (k + 1) ∧ val ((Z.set k lo).take (k + 1)) + pw (k + 1) * hi = val (X.take (k + 1)) * U + G := by
  refine ⟨P.step l0 l1, ?_⟩
  rw [P.val hk lo, val_at X k hk]
  simp only [pw]
  generalize pw k = p at *
  generalize val (Z.take k) = a at *
  generalize val (X.take k) = b at *
  generalize nth X k = x at *
  have : p * (lo + 18446744073709551616 * hi) = p * (x * U + C) := by rw [he]
  grind
end Go.Proofs.YtebilgnmnambnaaGreatDoor

namespace Go.Proofs.YtebilgnmnambnaaGreatDoor
open Go.RowKit Tn
def strLen : Value → Nat | .string b => b.size | _ => 0
theorem ex_to (D : ByteArray) (n : Nat) : (D.extract 0 n).data.toList = D.data.toList.take n := by simp
theorem ex_from (D : ByteArray) (n : Nat) : (D.extract n D.size).data.toList = D.data.toList.drop n := by
  have : D.size = D.data.toList.length := by rw [Array.length_toList]; rfl
  rw [this]
  simp only [ByteArray.data_extract, Array.toList_extract, List.extract_eq_take_drop]
  rw [List.take_of_length_le (by rw [List.length_drop]; omega)]
theorem own_growb {w w' : World} {base n : Nat} {e : TypeId} {v : Value} {xs : List Value} (h : w.ownsRow base e 1 v n xs) (k : Below w.heap.size w w') : w'.ownsRow base e 1 v n xs := by
  obtain ⟨h1, h2⟩ := h
  refine ⟨h1, ?_⟩
  rcases h2 with h2 | ⟨g, cap, cur, e1, e2, e3, e4⟩
  · exact Or.inl h2
  · exact Or.inr ⟨g, cap, cur, e1, e2, (k.block g (Own.lt ⟨cur, _, e3⟩)).trans e3, e4⟩
structure Ps (l : List UInt8) (c : Nat) (D : ByteArray) (X : List Int) : Prop where
  le : c ≤ l.length
  rest : D.data.toList = l.drop c
  part : c = 0 ∧ X = [] ∨ (l.length - c) % 19 = 0
  wd : Wd X
  v : val X = (Dc.num (l.take c) : Int)
  len : X.length ≤ (c + 18) / 19
theorem Ps.size {l : List UInt8} {c : Nat} {D : ByteArray} {X : List Int} (h : Ps l c D X) : D.size = l.length - c := by
  have : D.size = D.data.toList.length := by rw [Array.length_toList]; rfl
  rw [this, h.rest, List.length_drop]
theorem Ps.next {l : List UInt8} {c n : Nat} {D : ByteArray} {X Y : List Int} (h : Ps l c D X) (hr : 0 < D.size) (hn : n = (D.size - 1) % 19 + 1) (hY : Wd Y) (hv : val Y = val X * 10000000000000000000 + (Dc.num ((l.drop c).take n) : Int)) (hl : Y.length ≤ X.length + 1) :
    Ps l (c + n) (D.extract n D.size) Y := by
  have hs := h.size
  have n1 : c + n ≤ l.length := by omega
  refine ⟨n1, by rw [ex_from, h.rest, List.drop_drop], Or.inr (by omega), hY, ?_, ?_⟩
  · rw [hv, h.v, List.take_add, Dc.num_append, List.length_take, List.length_drop, Nat.min_eq_left (by omega)]
    rcases h.part with ⟨rfl, _⟩ | hp
    · simp [Dc.num]
    · have : n = 19 := by omega
      subst this
      simp
  · have := h.len
    rcases h.part with ⟨rfl, rfl⟩ | hp
    · simp at hl
      omega
    · omega
set_option maxHeartbeats 800000 in
set_option maxRecDepth 100000 in
theorem Parse_any (s : ByteArray) (w : World) (hs : s.size ≤ 1000000) (hd : ∀ c ∈ s.data.toList, Dc.Dg c) :
    Calls Tryz.prog 109 #[.string s] w fun e w' => ∃ r zs, e = .returned (.agg #[r]) ∧ Rd w' r zs ∧ Nm zs ∧ val zs = (Dc.num s.data.toList : Int) ∧ zs.length ≤ s.size / 19 + 1 ∧ Below w.heap.size w w' := by
  obtain ⟨l, hl⟩ : ∃ l, s.data.toList = l := ⟨_, rfl⟩
  have HL : Hid (s.data.toList = l) := hl
  have hls : l.length = s.size := by rw [← hl, Array.length_toList]; rfl
  rw [hl] at hd ⊢
  have HD : Hid (∀ c ∈ l, Dc.Dg c) := hd
  clear hd hl
  have K := Bx.new w (.slice none 0 0) 65
  have u1 : ((s.size : Int)).tdiv 19 = (s.size : Int) / 19 := Int.tdiv_eq_ediv_of_nonneg (by omega)
  obtain ⟨i, hi, hz0, hz1, hz2⟩ := infoW
  go_enter Tryz.func109, Tryz.ntmps109
  go_wp2_with (first
    | (at_make; refine wpList_make_own _ rfl _ _ 63 rfl (w.heap.size + 1) 87 i (.int .u64 0) 1 Tryz.underlying63 hi hz0 hz1 .i64 .i64 _ (s.size / 19 + 1) rfl rfl (by omega) (by rw [hz2]; omega) (by unfold maxLen; omega) (by simp) ?_; intro w1 own1 gr1; simp only [World.size_alloc] at own1)
    | fail)
  have hb1 : Below (w.heap.size + 1) (w.alloc (.cells #[.slice none 0 0] 65)) w1 := ⟨gr1.os, gr1.tape, gr1.output, gr1.size, fun k hk => gr1.block k (by simp; omega) (by simp)⟩
  go_loopw [0, 3] (fun d v wr => ∃ (c : Nat) (D : ByteArray) (X : List Int) (g cap : Nat), d = .string D ∧ v = .slice (some ⟨g, 0, none⟩) X.length cap ∧ Ps l c D X ∧ wr.ownsRow (w.heap.size + 1) 87 1 (.slice (some ⟨g, 0, none⟩) X.length cap) X.length (X.map (Value.int .u64)) ∧ Below (w.heap.size + 1) (w.alloc (.cells #[.slice none 0 0] 65)) wr) (fun d _ _ => strLen d)
  case atStart => exact ⟨0, s, [], _, _, rfl, rfl, ⟨Nat.zero_le _, by rw [HL.out]; rfl, Or.inl ⟨rfl, rfl⟩, Wd.nil, by simp [val, Dc.num], by simp⟩, own1, hb1⟩
  case round =>
    obtain ⟨c, D, X, g, cap, rfl, rfl, P, own, hb⟩ := hrel
    have HP : Hid (Ps l c D X) := P
    have hsz := P.size
    have hXl := P.len
    have hcl := P.le
    clear P
    have gl := ownw_lt own
    have gc := ownw_cap own
    have hbs := hb.size
    have hbs' : w.heap.size + 1 ≤ wr.heap.size := by simpa using hbs
    by_cases hr : 0 < D.size
    · obtain ⟨n, hn⟩ : ∃ n, (D.size - 1) % 19 + 1 = n := ⟨_, rfl⟩
      have n1 : 1 ≤ n := by omega
      have n2 : n ≤ 19 := by omega
      have n3 : n ≤ D.size := by omega
      have v1 : ((D.size : Int) - 1).tmod 19 = ((D.size : Int) - 1) % 19 := Int.tmod_eq_emod_of_nonneg (by omega)
      have v2 : ((D.size : Int) - 1) % 19 + 1 = (n : Int) := by omega
      have n3' : (n : Int) ≤ (D.size : Int) := by omega
      obtain ⟨G, hG⟩ : ∃ G, Dc.num ((l.drop c).take n) = G := ⟨_, rfl⟩
      have PU := fun W => Tryz.strconv_ParseUint_10_at64_ok (D.extract 0 n) (by rw [ByteArray.size_extract]; omega) G (by
        rw [ex_to, HP.out.rest, ← hG]
        refine Dc.parse19B _ (fun c hc => HD.out c (List.mem_of_mem_drop (List.mem_of_mem_take hc))) ?_ (by rw [List.length_take]; omega)
        intro e
        have := congrArg List.length e
        rw [List.length_take, List.length_drop] at this
        simp at this
        omega) W
      have G1 : G < 18446744073709551616 := by
        have := Dc.num_lt ((l.drop c).take n) (fun c hc => HD.out c (List.mem_of_mem_drop (List.mem_of_mem_take hc)))
        rw [hG, List.length_take, List.length_drop, Nat.min_eq_left (by omega)] at this
        have p : 10 ^ n ≤ 10 ^ 19 := Nat.pow_le_pow_right (by decide) n2
        have e19 : (10 : Nat) ^ 19 = 10000000000000000000 := by decide
        omega
      have HG : Hid (Dc.num ((l.drop c).take n) = G) := hG
      have HN : Hid (n = (D.size - 1) % 19 + 1) := hn.symm
      have HG1 : Hid (G < 18446744073709551616) := G1
      have HSZ : Hid (D.size = l.length - c) := hsz
      have hDs : D.size ≤ s.size := by omega
      clear hG hn G1 hsz
      go_wp2_with (go_at_call 159; go_must ((with_reducible refine (PU _).mono ?_)); rintro e w2 ⟨rfl, hw2⟩; have b2 : Below wr.heap.size wr w2 := (by rcases hw2 with rfl | rfl; exact Below.refl _ _; exact Lib.bytesWorld_below _ _ _); clear hw2)
      have own2 := own_growb own b2
      have hb2 := hb.trans (b2.mono hbs')
      have gl2 := ownw_lt own2
      go_loopw [7, 36] (fun cy i wr2 => ∃ (k : Nat) (C : Int) (Z : List Int), k ≤ X.length ∧ i = .int .i64 k ∧ cy = .int .u64 C ∧ 0 ≤ C ∧ C ≤ 18446744073709551615 ∧ Hid (Part Z X k ∧ val (Z.take k) + pw k * C = val (X.take k) * 10000000000000000000 + (G : Int)) ∧ wr2.ownsRow (w.heap.size + 1) 87 1 (.slice (some ⟨g, 0, none⟩) X.length cap) X.length (Z.map (Value.int .u64)) ∧ Below (w.heap.size + 1) (w.alloc (.cells #[.slice none 0 0] 65)) wr2) (fun _ i _ => X.length - (intOf i).toNat)
      case atStart => exact ⟨0, (G : Int), X, Nat.zero_le _, rfl, rfl, by omega, by have := HG1.out; omega, ⟨Part.refl HP.out.wd 0, by simp [val, pw]⟩, own2, hb2⟩
      case round =>
        rename World => wr2
        obtain ⟨k, C, Z, hk, rfl, rfl, c0, c1, hz, own3, hb3⟩ := hrel
        have hZl : Z.length = X.length := hz.out.1.len
        by_cases hlt : k < X.length
        · have ec : wr2.cell? ⟨g, k, none⟩ = some (.int .u64 (nth X k)) := by
            rw [← hz.out.1.nth]
            have o := own3
            rw [← hZl] at o
            exact ownw_at o k (by omega)
          have ef : wr2.frozen? ⟨g, k, none⟩ = false := own3.frozenAt k
          have gl3 := ownw_lt own3
          have bx := nth_bd HP.out.wd k
          obtain ⟨x, hx⟩ : ∃ x, nth X k = x := ⟨_, rfl⟩
          have HX : Hid (nth X k = x) := hx
          rw [hx] at ec bx
          have M := fun W => mulAdd_any x 10000000000000000000 C W bx.1 bx.2 (by decide) (by decide) c0 (by omega)
          have hx63 : 0 ≤ x := bx.1
          have HB3 : Hid (Below (w.heap.size + 1) (w.alloc (.cells #[.slice none 0 0] 65)) wr2) := hb3
          clear hx bx hb3
          go_wp2_with (go_at_call 160; (with_reducible refine (M _).mono ?_); rintro e w3 ⟨lo, hi, rfl, l0, l1, i0, i1, he, hw3⟩; have hw4 := hw3.symm; subst hw4; have HE : Hid (lo + 18446744073709551616 * hi = x * 10000000000000000000 + C) := he; have i2 : hi ≤ 18446744073709551615 := (by omega); have HL1 : Hid (lo < 18446744073709551616) := l1; clear he hw3 l1 i1)
          go_roundw
          case rel =>
            have m := mul_more hz.out.1 hlt hz.out.2 l0 HL1.out (by rw [HX.out]; exact HE.out)
            refine ⟨k + 1, hi, Z.set k lo, by omega, by go_num, rfl, i0, i2, m, ?_, HB3.out.setCell (p := ⟨g, k, none⟩) gl3.1 _⟩
            have o := own3
            rw [← hZl] at o ⊢
            exact ownw_set o k lo
          case measure => simp [intOf]; omega
        · obtain rfl : k = X.length := by omega
          have V : Hid (Wd Z ∧ val Z + pw X.length * C = val X * 10000000000000000000 + (G : Int)) := by
            have := hz.out.2
            rw [List.take_length, List.take_of_length_le (by omega)] at this
            exact ⟨hz.out.1.wd, this⟩
          clear hz
          rw [← hZl] at own3 V ⊢
          have HZ : Hid (Z.length = X.length) := hZl
          have hZ2 : Z.length ≤ 1000000 := by omega
          clear hZl hXl gc gl own own2 gl2
          have gl3 := ownw_lt own3
          have hb3s : w.heap.size + 1 ≤ wr2.heap.size := by simpa using hb3.size
          by_cases hC : 0 < C
          · go_wp2_with (first
              | (at_builtin; (refine wpList_pushw rfl _ _ rfl g cap Z rfl (w.heap.size + 1) (own_growb own3 ((Below.refl _ _).alloc (Nat.le_refl _) _)) (by omega) _ _ C rfl (by simp) (by simp; omega) ?_; intro g' cap' w4 own4 b4; have hb4 := (hb3.alloc (by simpa using hb3s) _).trans b4))
              | fail)
            go_roundw
            case rel =>
              refine ⟨c + n, D.extract n D.size, Z ++ [C], g', cap', rfl, by simp, HP.out.next hr HN.out (V.out.1.append (Wd.cons c0 (by omega) Wd.nil)) ?_ (by rw [List.length_append, HZ.out]; simp), own4, hb4⟩
              rw [val_append, HG.out, ← V.out.2, HZ.out]
              simp [val]
            case measure =>
              have : (D.extract n D.size).size = D.size - n := by rw [ByteArray.size_extract]; omega
              simp only [strLen, this]
              omega
          · obtain rfl : C = 0 := by omega
            go_wp2
            go_roundw
            case rel =>
              refine ⟨c + n, D.extract n D.size, Z, g, cap, rfl, rfl, HP.out.next hr HN.out V.out.1 ?_ (by rw [HZ.out]; omega), own3, hb3⟩
              rw [HG.out, ← V.out.2]
              simp
            case measure =>
              have : (D.extract n D.size).size = D.size - n := by rw [ByteArray.size_extract]; omega
              simp only [strLen, this]
              omega
    · have hc : Hid (c = l.length) := by show _ = _; omega
      have hv : Hid (val X = (Dc.num l : Int)) := by
        show _ = _
        rw [HP.out.v, hc.out, List.take_length]
      have hxl : Hid (X.length ≤ s.size / 19 + 1) := by show _ ≤ _; omega
      have hwd : Hid (Wd X) := HP.out.wd
      have hcells : Hid (0 < X.length → ∃ b o, (some (⟨g, 0, none⟩ : Addr)) = some ⟨b, o, none⟩ ∧ Cells wr b o X) := fun _ => ⟨g, 0, rfl, fun i hi => by rw [Nat.zero_add]; exact ownw_at own i hi⟩
      have K2 : Bx wr w.heap.size (.slice none 0 0) := by
        have l0 : w.heap.size < w.heap.size + 1 := by omega
        exact ⟨(hb.cell (p := ⟨w.heap.size, 0, none⟩) l0).trans K.1, (hb.frozen (p := ⟨w.heap.size, 0, none⟩) l0).trans K.2, by obtain ⟨t, e⟩ := K.3; exact ⟨t, (hb.block _ l0).trans e⟩⟩
      have hx0 : D.size = 0 := by omega
      have HD0 : Hid (D.size = 0) := hx0
      have hr' : ¬ (0 : Int) < (D.size : Int) := by omega
      have prw : Below w.heap.size w wr := below_alloc1 hb
      clear hsz hcl hXl hx0
      go_wp2_with (go_at_call 123; (refine (trim_rd _ _ _ X _ rfl hwd.out (by omega) (by omega) hcells.out).mono ?_); rintro e w5 ⟨n5, zs, rfl, hzs, hrd, hnm, hvz, b5⟩; replace K2 := K2.below b5; have k0 := K2.1; have kf := K2.2)
      have v1 : (w5.setCell ⟨w.heap.size, 0, none⟩ (.slice (some ⟨g, 0, none⟩) n5 cap)).cell? ⟨w.heap.size, 0, none⟩ = some (.slice (some ⟨g, 0, none⟩) n5 cap) := World.cell?_setCell_same _ _ _ k0
      refine bodyPost_ret (v := .agg #[.slice (some ⟨g, 0, none⟩) n5 cap]) (by simp [results, Tryz.results109, go_sem, v1]) rfl ⟨_, zs, rfl, hrd.put (by intro b o l c e; simp at e; omega), hnm, by rw [hvz, hv.out], ?_, below_put (prw.trans (b5.mono prw.size)) (Nat.le_refl _) _⟩
      have := hxl.out
      rw [hzs, List.length_take]
      omega
end Go.Proofs.YtebilgnmnambnaaGreatDoor

namespace Go.Proofs.YtebilgnmnambnaaGreatDoor.Mo
open Go.RowKit Dc
def shB (n d : ByteArray) : Bool := whB n && natB d && !is0 d && !(is0 n && !is1 d)
abbrev noR (e : Int) : Value := .tuple #[.agg #[.bool false, .slice none 0 0, .slice none 0 0], .int .i64 e]
theorem bel' {w W w1 : World} (pr : Below w.heap.size w W) (b1 : Below W.heap.size W w1) : Below w.heap.size w w1 := pr.trans (b1.mono pr.size)
structure Rb (W : World) (n : Nat) (a b c : Value) : Prop where
  c0 : W.cell? ⟨n, 0, none⟩ = some a
  c1 : W.cell? ⟨n, 1, none⟩ = some b
  c2 : W.cell? ⟨n, 2, none⟩ = some c
  f0 : W.frozen? ⟨n, 0, none⟩ = false
  f1 : W.frozen? ⟨n, 1, none⟩ = false
  f2 : W.frozen? ⟨n, 2, none⟩ = false
  bk : ∃ t, Blk W n #[a, b, c] t
theorem Rb.new (w : World) (a b c : Value) (t : TypeId) : Rb (w.alloc (.cells #[a, b, c] t)) w.heap.size a b c := ⟨by simp, by simp, by simp, by simp, by simp, by simp, t, Blk.new _ _ _⟩
theorem Rb.grow {w w' : World} {n : Nat} {a b c : Value} (h : Rb w n a b c) (k : Below w.heap.size w w') : Rb w' n a b c := by
  have l := L.lt_of_cell h.c0
  exact ⟨(k.cell (p := ⟨n, 0, none⟩) l).trans h.c0, (k.cell (p := ⟨n, 1, none⟩) l).trans h.c1, (k.cell (p := ⟨n, 2, none⟩) l).trans h.c2, (k.frozen (p := ⟨n, 0, none⟩) l).trans h.f0, (k.frozen (p := ⟨n, 1, none⟩) l).trans h.f1, (k.frozen (p := ⟨n, 2, none⟩) l).trans h.f2, by obtain ⟨t, e⟩ := h.bk; exact ⟨t, e.below k l⟩⟩
theorem Rb.alloc {w : World} {n : Nat} {a b c : Value} (h : Rb w n a b c) (o : Obj) : Rb (w.alloc o) n a b c := h.grow ((Below.refl _ _).alloc (Nat.le_refl _) o)
theorem Rb.put {W : World} {n : Nat} {a b c : Value} (h : Rb W n a b c) (x y z : Value) :
    (((W.setCell ⟨n, 0, none⟩ x).setCell ⟨n, 1, none⟩ y).setCell ⟨n, 2, none⟩ z).cell? ⟨n, 0, none⟩ = some x ∧ (((W.setCell ⟨n, 0, none⟩ x).setCell ⟨n, 1, none⟩ y).setCell ⟨n, 2, none⟩ z).cell? ⟨n, 1, none⟩ = some y ∧ (((W.setCell ⟨n, 0, none⟩ x).setCell ⟨n, 1, none⟩ y).setCell ⟨n, 2, none⟩ z).cell? ⟨n, 2, none⟩ = some z := by
  have h1 : (W.setCell ⟨n, 0, none⟩ x).cell? ⟨n, 1, none⟩ = some b := (World.cell?_setCell_other _ _ _ _ (by simp)).trans h.c1
  have h2 : ((W.setCell ⟨n, 0, none⟩ x).setCell ⟨n, 1, none⟩ y).cell? ⟨n, 2, none⟩ = some c := (World.cell?_setCell_other _ _ _ _ (by simp)).trans ((World.cell?_setCell_other _ _ _ _ (by simp)).trans h.c2)
  refine ⟨?_, ?_, World.cell?_setCell_same _ _ _ h2⟩
  · rw [World.cell?_setCell_other _ _ _ _ (by simp), World.cell?_setCell_other _ _ _ _ (by simp), World.cell?_setCell_same _ _ _ h.c0]
  · rw [World.cell?_setCell_other _ _ _ _ (by simp), World.cell?_setCell_same _ _ _ h1]
theorem Rd.putF {w : World} {n : Nat} {v x y z : Value} {xs : List Int} {g : Bool} {a1 a2 : Option Addr} {n1 c1 n2 c2 : Nat} (h : Rd w v xs) (R : Rb w n (.bool g) (.slice a1 n1 c1) (.slice a2 n2 c2)) : Rd (((w.setCell ⟨n, 0, none⟩ x).setCell ⟨n, 1, none⟩ y).setCell ⟨n, 2, none⟩ z) v xs := by
  obtain ⟨t, K⟩ := R.bk
  obtain ⟨h1, a, cap, h2, h3, h4, h5⟩ := h
  refine ⟨h1, a, cap, h2, h3, h4, fun l => ?_⟩
  obtain ⟨b, o, e, c⟩ := h5 l
  have hne : b ≠ n := by
    rintro rfl
    have h0 := c 0 (by omega)
    rw [K.at] at h0
    rcases (show o + 0 = 0 ∨ o + 0 = 1 ∨ o + 0 = 2 ∨ 3 ≤ o + 0 by omega) with e | e | e | e
    · rw [e] at h0; simp at h0
    · rw [e] at h0; simp at h0
    · rw [e] at h0; simp at h0
    · rw [Array.getElem?_eq_none (by simpa using e)] at h0; simp at h0
  refine ⟨b, o, e, fun i hi => ?_⟩
  rw [World.cell?_setCell_other _ _ _ _ (by simp; try omega), World.cell?_setCell_other _ _ _ _ (by simp; try omega), World.cell?_setCell_other _ _ _ _ (by simp; try omega)]
  exact c i hi
theorem bset3 {w W : World} {n : Nat} {x y z : Value} (h : Below w.heap.size w W) (hn : w.heap.size ≤ n) : Below w.heap.size w (((W.setCell ⟨n, 0, none⟩ x).setCell ⟨n, 1, none⟩ y).setCell ⟨n, 2, none⟩ z) :=
  ((h.setCell (p := ⟨n, 0, none⟩) hn x).setCell (p := ⟨n, 1, none⟩) hn y).setCell (p := ⟨n, 2, none⟩) hn z
set_option maxHeartbeats 1600000 in
set_option maxRecDepth 100000 in
theorem Read_shape (n d : ByteArray) (w : World) (hn : n.size ≤ 9223372036854775807) (hd : d.size ≤ 9223372036854775807) (h : shB n d = false) :
    Calls Tryz.prog 47 #[.agg #[.string n, .string d]] w fun e w' => e = .returned (noR 5) ∧ Below w.heap.size w w' := by
  have W1 := fun W => IsWhole_any n W hn
  have N1 := fun W => IsNatural_any d W hd
  unfold shB is0 is1 at h
  generalize whB n = b1 at *
  generalize natB d = b2 at *
  obtain ⟨q1, h1⟩ : ∃ q, (d.toList == [48]) = q := ⟨_, rfl⟩
  obtain ⟨q2, h2⟩ : ∃ q, (n.toList == [48]) = q := ⟨_, rfl⟩
  obtain ⟨q3, h3⟩ : ∃ q, (d.toList == [49]) = q := ⟨_, rfl⟩
  rw [h1, h2, h3] at h
  have K0 : Blk _ _ _ _ := (Blk.new w #[.string n, .string d] 23).alloc (.cells #[.bool false, .slice none 0 0, .slice none 0 0] 67)
  have K1 := Rb.new (w.alloc (.cells #[.string n, .string d] 23)) (.bool false) (.slice none 0 0) (.slice none 0 0) 67
  have pr : Below w.heap.size w ((w.alloc (.cells #[.string n, .string d] 23)).alloc (.cells #[.bool false, .slice none 0 0, .slice none 0 0] 67)) := ((Below.refl _ _).alloc (Nat.le_refl _) _).alloc (by simp) _
  simp only [World.size_alloc] at K1
  have hh : b1 = false ∨ (b1 = true ∧ b2 = false) ∨ (b1 = true ∧ b2 = true ∧ q1 = true) ∨ (b1 = true ∧ b2 = true ∧ q1 = false ∧ q2 = true ∧ q3 = false) := by
    revert h; cases b1 <;> cases b2 <;> cases q1 <;> cases q2 <;> cases q3 <;> simp
  clear h
  rcases hh with rfl | ⟨rfl, rfl⟩ | ⟨rfl, rfl, rfl⟩ | ⟨rfl, rfl, rfl, rfl, rfl⟩
  all_goals
    go_enter Tryz.func47, Tryz.ntmps47
    go_wp2_with (first
      | (go_at_call 106; (refine (W1 _).mono ?_); rintro e w1 ⟨rfl, b1⟩; have k0 : w1.cell? ⟨w.heap.size, 0, none⟩ = some (.string n) := (K0.below b1 K0.lt).at 0; have k1 : w1.cell? ⟨w.heap.size, 1, none⟩ = some (.string d) := (K0.below b1 K0.lt).at 1; have R := K1.grow b1; have r0 := R.c0; have r1 := R.c1; have r2 := R.c2; have s0 := R.f0; have s1 := R.f1; have s2 := R.f2)
      | (go_at_call 107; (refine (N1 _).mono ?_); rintro e w2 ⟨rfl, rfl⟩))
    obtain ⟨F0, F1, F2⟩ := R.put (.bool false) (.slice none 0 0) (.slice none 0 0)
    exact bodyPost_ret (v := noR 5) (by simp [results, Tryz.results47, go_sem, F0, F1, F2]) rfl ⟨rfl, bset3 (bel' pr b1) (by omega)⟩
set_option maxHeartbeats 1600000 in
set_option maxRecDepth 100000 in
theorem Read_long (n d : ByteArray) (w : World) (hn : n.size ≤ 9223372036854775807) (hd : d.size ≤ 9223372036854775807) (h : shB n d = true) (hl : 4096 < (rest n).size ∨ 4096 < d.size) :
    Calls Tryz.prog 47 #[.agg #[.string n, .string d]] w fun e w' => e = .returned (noR 3) ∧ Below w.heap.size w w' := by
  have W1 := fun W => IsWhole_any n W hn
  have N1 := fun W => IsNatural_any d W hd
  have C1 := fun W => CutSign_any n W hn
  have hr := rest_size n
  unfold shB is0 is1 at h
  generalize whB n = b1 at *
  generalize natB d = b2 at *
  generalize rest n = z at *
  generalize neg n = g at *
  obtain ⟨q1, h1⟩ : ∃ q, (d.toList == [48]) = q := ⟨_, rfl⟩
  obtain ⟨q2, h2⟩ : ∃ q, (n.toList == [48]) = q := ⟨_, rfl⟩
  obtain ⟨q3, h3⟩ : ∃ q, (d.toList == [49]) = q := ⟨_, rfl⟩
  rw [h1, h2, h3] at h
  have K0 : Blk _ _ _ _ := (Blk.new w #[.string n, .string d] 23).alloc (.cells #[.bool false, .slice none 0 0, .slice none 0 0] 67)
  have K1 := Rb.new (w.alloc (.cells #[.string n, .string d] 23)) (.bool false) (.slice none 0 0) (.slice none 0 0) 67
  have pr : Below w.heap.size w ((w.alloc (.cells #[.string n, .string d] 23)).alloc (.cells #[.bool false, .slice none 0 0, .slice none 0 0] 67)) := ((Below.refl _ _).alloc (Nat.le_refl _) _).alloc (by simp) _
  simp only [World.size_alloc] at K1
  have hh : (b1 = true ∧ b2 = true ∧ q1 = false ∧ q2 = false) ∨ (b1 = true ∧ b2 = true ∧ q1 = false ∧ q2 = true ∧ q3 = true) := by
    revert h; cases b1 <;> cases b2 <;> cases q1 <;> cases q2 <;> cases q3 <;> simp
  have hh2 : ((4096 : Int) < (z.size : Int)) ∨ (¬ (4096 : Int) < (z.size : Int) ∧ (4096 : Int) < (d.size : Int)) := by omega
  clear h hl
  rcases hh with ⟨rfl, rfl, rfl, rfl⟩ | ⟨rfl, rfl, rfl, rfl, rfl⟩ <;> rcases hh2 with hz | ⟨hz, hy⟩
  all_goals
    go_enter Tryz.func47, Tryz.ntmps47
    go_wp2_with (first
      | (go_at_call 106; (refine (W1 _).mono ?_); rintro e w1 ⟨rfl, b1⟩; have k0 : w1.cell? ⟨w.heap.size, 0, none⟩ = some (.string n) := (K0.below b1 K0.lt).at 0; have k1 : w1.cell? ⟨w.heap.size, 1, none⟩ = some (.string d) := (K0.below b1 K0.lt).at 1; replace K0 := K0.below b1 K0.lt; have R := K1.grow b1; replace pr := bel' pr b1)
      | (go_at_call 107; (refine (N1 _).mono ?_); rintro e w2 ⟨rfl, rfl⟩)
      | (go_at_call 108; (refine (C1 _).mono ?_); rintro e w3 ⟨rfl, b3⟩; have k2 : w3.cell? ⟨w.heap.size, 1, none⟩ = some (.string d) := (K0.below b3 K0.lt).at 1; replace R := R.grow b3; replace pr := bel' pr b3; have r0 := R.c0; have r1 := R.c1; have r2 := R.c2; have s0 := R.f0; have s1 := R.f1; have s2 := R.f2))
    obtain ⟨F0, F1, F2⟩ := R.put (.bool false) (.slice none 0 0) (.slice none 0 0)
    exact bodyPost_ret (v := noR 3) (by simp [results, Tryz.results47, go_sem, F0, F1, F2]) rfl ⟨rfl, bset3 pr (by omega)⟩
end Go.Proofs.YtebilgnmnambnaaGreatDoor.Mo

namespace Go.Proofs.YtebilgnmnambnaaGreatDoor.Mo
open Go.RowKit Dc Tn
def Rn (x : World) (t : Value) (P : List Int → Prop) : Prop := ∃ a l c xs, t = .agg #[.slice a l c] ∧ Rd x (.slice a l c) xs ∧ Nm xs ∧ P xs
theorem Rn.grow {x x' : World} {t : Value} {P : List Int → Prop} (h : Rn x t P) (b : Below x.heap.size x x') : Rn x' t P := by
  obtain ⟨a, l, c, xs, e, r, n, p⟩ := h
  exact ⟨a, l, c, xs, e, r.grow b, n, p⟩
structure MR (W x : World) (V0 V2 V3 : Value) (P1 P4 : List Int → Prop) (y0 y1 y2 y3 y4 y5 y6 : Bool) (t50 t51 t52 t53 t54 t6 t7 : Value) : Prop where
  bel : Below W.heap.size W x
  o0 : y0 = true → t50 = V0
  o2 : y2 = true → t52 = V2
  o3 : y3 = true → t53 = V3
  o1 : y1 = true → Rn x t51 P1
  o4 : y4 = true → Rn x t54 P4
  o5 : y5 = true → ∃ X, t6 = .pointer (some ⟨X, 0, none⟩) ∧ W.heap.size ≤ X ∧ Bx x X (.slice none 0 0)
  o6 : y6 = true → ∃ X, t7 = .pointer (some ⟨X, 0, none⟩) ∧ W.heap.size ≤ X ∧ Bx x X (.slice none 0 0)
  ne : y5 = true → y6 = true → t6 ≠ t7
  d1_0 : y1 = true → y0 = true
  d3_2 : y3 = true → y2 = true
  d4_3 : y4 = true → y3 = true
  d4_1 : y4 = true → y1 = true
theorem MR.grow {W x x' : World} {V0 V2 V3 : Value} {P1 P4 : List Int → Prop} {y0 y1 y2 y3 y4 y5 y6 : Bool} {t50 t51 t52 t53 t54 t6 t7 : Value} (h : MR W x V0 V2 V3 P1 P4 y0 y1 y2 y3 y4 y5 y6 t50 t51 t52 t53 t54 t6 t7) (b : Below x.heap.size x x') : MR W x' V0 V2 V3 P1 P4 y0 y1 y2 y3 y4 y5 y6 t50 t51 t52 t53 t54 t6 t7 where
  bel := bel' h.bel b
  o0 := h.o0
  o2 := h.o2
  o3 := h.o3
  o1 := fun u => (h.o1 u).grow b
  o4 := fun u => (h.o4 u).grow b
  o5 := fun u => by obtain ⟨k, e, l, K⟩ := h.o5 u; exact ⟨k, e, l, K.below b⟩
  o6 := fun u => by obtain ⟨k, e, l, K⟩ := h.o6 u; exact ⟨k, e, l, K.below b⟩
  ne := h.ne
  d1_0 := h.d1_0
  d3_2 := h.d3_2
  d4_3 := h.d4_3
  d4_1 := h.d4_1
set_option maxHeartbeats 1600000 in
set_option maxRecDepth 100000 in
theorem Read_num (n d : ByteArray) (g : Bool) (z : ByteArray) (q2 q3 : Bool) (w : World) (hd : d.size ≤ 4096) (hz : z.size ≤ 4096)
    (dz : ∀ c ∈ z.data.toList, Dc.Dg c) (dd : ∀ c ∈ d.data.toList, Dc.Dg c)
    (W1 : ∀ W, Calls Tryz.prog 106 #[.string n] W fun e w' => e = .returned (.bool true) ∧ Below W.heap.size W w')
    (N1 : ∀ W, Calls Tryz.prog 107 #[.string d] W fun e w' => e = .returned (.bool true) ∧ w' = W)
    (C1 : ∀ W, Calls Tryz.prog 108 #[.string n] W fun e w' => e = .returned (.tuple #[.bool g, .string z]) ∧ Below W.heap.size W w')
    (h1 : (d.toList == [48]) = false) (h2 : (n.toList == [48]) = q2) (h3 : (d.toList == [49]) = q3) (hq : (q2 && !q3) = false) :
    Calls Tryz.prog 47 #[.agg #[.string n, .string d]] w fun e w' => (Int.gcd (Dc.num z.data.toList : Int) (Dc.num d.data.toList : Int) ≠ 1 ∧ e = .returned (noR 5) ∨ Int.gcd (Dc.num z.data.toList : Int) (Dc.num d.data.toList : Int) = 1 ∧ ∃ v1 v2 xs ys, e = .returned (.tuple #[.agg #[.bool g, v1, v2], .int .i64 0]) ∧ Rd w' v1 xs ∧ Nm xs ∧ val xs = (Dc.num z.data.toList : Int) ∧ xs.length ≤ 400 ∧ Rd w' v2 ys ∧ Nm ys ∧ val ys = (Dc.num d.data.toList : Int) ∧ ys.length ≤ 400) ∧ Below w.heap.size w w' := by
  have K0 : Blk _ _ _ _ := (Blk.new w #[.string n, .string d] 23).alloc (.cells #[.bool false, .slice none 0 0, .slice none 0 0] 67)
  have K1 := Rb.new (w.alloc (.cells #[.string n, .string d] 23)) (.bool false) (.slice none 0 0) (.slice none 0 0) 67
  have pr : Below w.heap.size w ((w.alloc (.cells #[.string n, .string d] 23)).alloc (.cells #[.bool false, .slice none 0 0, .slice none 0 0] 67)) := ((Below.refl _ _).alloc (Nat.le_refl _) _).alloc (by simp) _
  simp only [World.size_alloc] at K1
  have hzi : ¬ (4096 : Int) < (z.size : Int) := by omega
  have hdi : ¬ (4096 : Int) < (d.size : Int) := by omega
  have hh : q2 = false ∨ (q2 = true ∧ q3 = true) := by
    revert hq; cases q2 <;> cases q3 <;> simp
  clear hq
  go_enter Tryz.func47, Tryz.ntmps47
  go_upto_region 1 with fail
  go_cut [32] (fun c wc => c = .bool false ∧ Blk wc w.heap.size #[.string n, .string d] 23 ∧ Rb wc (w.heap.size + 1) (.bool false) (.slice none 0 0) (.slice none 0 0) ∧ Below w.heap.size w wc)
  case first =>
    rcases hh with rfl | ⟨rfl, rfl⟩
    all_goals
      go_wp2_with (first
        | (go_at_call 106; (refine (W1 _).mono ?_); rintro e w1 ⟨rfl, b1⟩; have k0 : w1.cell? ⟨w.heap.size, 0, none⟩ = some (.string n) := (K0.below b1 K0.lt).at 0; have k1 : w1.cell? ⟨w.heap.size, 1, none⟩ = some (.string d) := (K0.below b1 K0.lt).at 1; replace K0 := K0.below b1 K0.lt; have R := K1.grow b1; replace pr := bel' pr b1)
        | (go_at_call 107; (refine (N1 _).mono ?_); rintro e w2 ⟨rfl, rfl⟩))
      go_meet
      case rel => exact ⟨rfl, K0, R, pr⟩
  case rest =>
    clear K0 K1 pr W1 N1 hh
    obtain ⟨rfl, K0, R, pr⟩ := hcut
    have k0 : wc.cell? ⟨w.heap.size, 0, none⟩ = some (.string n) := K0.at 0
    have k1 : wc.cell? ⟨w.heap.size, 1, none⟩ = some (.string d) := K0.at 1
    go_upto_region 4 with (first
      | (go_at_call 108; (refine (C1 _).mono ?_); rintro e w3 ⟨rfl, b3⟩; replace K0 := K0.below b3 K0.lt; have k2 : w3.cell? ⟨w.heap.size, 1, none⟩ = some (.string d) := K0.at 1; replace R := R.grow b3; replace pr := bel' pr b3; clear b3 k0 k1))
    go_cut [48] (fun c wc => c = .bool false ∧ wc = w3)
    case first =>
      go_wp2_with fail
      go_meet
      case rel => exact ⟨by simp; omega, rfl⟩
    case rest =>
    clear k2 C1 h1 h2 h3
    obtain ⟨rfl, rfl⟩ := hcut
    go_upto_region 6 with fail
    clear hzi hdi
    go_cut [6, 7] (fun x y wc => ∃ X Y a1 l1 c1 a2 l2 c2 xs zs, x = .pointer (some ⟨X, 0, none⟩) ∧ y = .pointer (some ⟨Y, 0, none⟩) ∧ Bx wc X (.slice a1 l1 c1) ∧ Bx wc Y (.slice a2 l2 c2) ∧ Rd wc (.slice a1 l1 c1) xs ∧ Nm xs ∧ (val xs = (Dc.num z.data.toList : Int) ∧ xs.length ≤ 400) ∧ Rd wc (.slice a2 l2 c2) zs ∧ Nm zs ∧ (val zs = (Dc.num d.data.toList : Int) ∧ zs.length ≤ 400) ∧ Rb wc (w.heap.size + 1) (.bool false) (.slice none 0 0) (.slice none 0 0) ∧ Below w.heap.size w wc)
    case first =>
      rename_i hm hJ
      refine wp_region_held (S := fun _ => True) (by kernel_rfl) (any_inv (fun listed a x => ∃ (y0 y1 y2 y3 y4 y5 y6 : Bool) (t50 t51 t52 t53 t54 t6 t7 : Value), a = ⟨#[.agg #[.string n, .string d], .pointer (some ⟨w.heap.size, 0, none⟩), .pointer (some ⟨w.heap.size + 1, 0, none⟩), .int .i64 0, .bool g, .string z, t6, t7, u8, u9, u10, u11, u12, u13, u14, u15, u16, u17, u18, u19, u20, u21, u22, u23, u24, u25, u26, u27, u28, u29, u30, u31, u32, u33, u34, u35, u36, u37, u38, u39, u40, u41, u42, u43, u44, u45, u46, u47, .bool false, u49, t50, t51, t52, t53, t54, u55, u56, u57, u58, u59, u60, u61, u62, u63, u64], []⟩ ∧ ((listed = #[y0, y1, y2, y3, y4, y5, y6, false, false] ∧ MR wc x (.string z) (.pointer (some ⟨w.heap.size, 1, none⟩)) (.string d) (fun l => val l = (Dc.num z.data.toList : Int) ∧ l.length ≤ 400) (fun l => val l = (Dc.num d.data.toList : Int) ∧ l.length ≤ 400) y0 y1 y2 y3 y4 y5 y6 t50 t51 t52 t53 t54 t6 t7) ∨ (listed = #[true, true, true, true, true, true, true, true, false] ∧ (∃ X Y a1 l1 c1 a2 l2 c2 xs zs, t6 = .pointer (some ⟨X, 0, none⟩) ∧ t7 = .pointer (some ⟨Y, 0, none⟩) ∧ X ≠ Y ∧ wc.heap.size ≤ X ∧ wc.heap.size ≤ Y ∧ Below wc.heap.size wc x ∧ t51 = .agg #[.slice a1 l1 c1] ∧ t54 = .agg #[.slice a2 l2 c2] ∧ Rd x (.slice a1 l1 c1) xs ∧ Nm xs ∧ (fun l => val l = (Dc.num z.data.toList : Int) ∧ l.length ≤ 400) xs ∧ Rd x (.slice a2 l2 c2) zs ∧ Nm zs ∧ (fun l => val l = (Dc.num d.data.toList : Int) ∧ l.length ≤ 400) zs ∧ Bx x X (.slice a1 l1 c1) ∧ Bx x Y (.slice none 0 0))) ∨ (listed = #[true, true, true, true, true, true, true, true, true] ∧ (∃ X Y a1 l1 c1 a2 l2 c2 xs zs, t6 = .pointer (some ⟨X, 0, none⟩) ∧ t7 = .pointer (some ⟨Y, 0, none⟩) ∧ X ≠ Y ∧ wc.heap.size ≤ X ∧ wc.heap.size ≤ Y ∧ Below wc.heap.size wc x ∧ t51 = .agg #[.slice a1 l1 c1] ∧ t54 = .agg #[.slice a2 l2 c2] ∧ Rd x (.slice a1 l1 c1) xs ∧ Nm xs ∧ (fun l => val l = (Dc.num z.data.toList : Int) ∧ l.length ≤ 400) xs ∧ Rd x (.slice a2 l2 c2) zs ∧ Nm zs ∧ (fun l => val l = (Dc.num d.data.toList : Int) ∧ l.length ≤ 400) zs ∧ Bx x X (.slice a1 l1 c1) ∧ Bx x Y (.slice a2 l2 c2))))) ?_ ?_ _ _ _ _ (by decide) ?_)
      · rintro listed a x i ⟨y0, y1, y2, y3, y4, y5, y6, t50, t51, t52, t53, t54, t6, t7, rfl, h⟩ hi
        have hr : i < 9 := List.mem_range.1 (List.mem_filter.1 hi).1
        have hc := (List.mem_filter.1 hi).2
        rcases h with ⟨rfl, h⟩ | ⟨rfl, h⟩ | ⟨rfl, h⟩
        · rcases (show i = 0 ∨ i = 1 ∨ i = 2 ∨ i = 3 ∨ i = 4 ∨ i = 5 ∨ i = 6 ∨ i = 7 ∨ i = 8 by omega) with rfl | rfl | rfl | rfl | rfl | rfl | rfl | rfl | rfl
          · -- operation 0
            clear hc hi
            refine wpOp_step rfl (fun K hK0 => ?_)
            have hK : Hid _ := hK0
            clear hK0
            rw [if_pos (by rfl)]
            go_wp2_with fail
            exact hK.out _ _ ⟨true,_,_,_,_,_,_,.string z,_,_,_,_,_,_,rfl,Or.inl ⟨rfl, { h with o0 := fun _ => rfl, d1_0 := fun _ => rfl }⟩⟩
          · -- operation 1
            have e0 : y0 = true := by
              revert hc
              cases y0 <;> simp [Region.binds]
            have r0 := h.o0 e0
            subst r0
            clear hc hi
            refine wpOp_step rfl (fun K hK0 => ?_)
            have hK : Hid _ := hK0
            clear hK0
            rw [if_pos (by rfl)]
            go_wp2_with (first | (go_at_call 109; go_must (refine (Parse_any z x (by omega) dz).mono ?_; rintro e x2 ⟨r, zs, rfl, hr, hnm, hv, hl, bb⟩)) | fail)
            obtain ⟨a9, l9, c9, rfl⟩ := hr.shape
            exact hK.out _ _ ⟨_,true,_,_,_,_,_,_,_,_,_,_,_,_,rfl,Or.inl ⟨rfl, { h.grow bb with o1 := fun _ => ⟨a9, l9, c9, zs, rfl, hr, hnm, ⟨hv, by omega⟩⟩, d1_0 := fun _ => e0, d4_1 := fun _ => rfl }⟩⟩
          · -- operation 2
            clear hc hi
            refine wpOp_step rfl (fun K hK0 => ?_)
            have hK : Hid _ := hK0
            clear hK0
            rw [if_pos (by rfl)]
            go_wp2_with fail
            exact hK.out _ _ ⟨_,_,true,_,_,_,_,_,_,.pointer (some ⟨w.heap.size, 1, none⟩),_,_,_,_,rfl,Or.inl ⟨rfl, { h with o2 := fun _ => rfl, d3_2 := fun _ => rfl }⟩⟩
          · -- operation 3
            have e2 : y2 = true := by
              revert hc
              cases y2 <;> simp [Region.binds]
            have r2 := h.o2 e2
            subst r2
            clear hc hi
            have kd : x.cell? ⟨w.heap.size, 1, none⟩ = some (.string d) := (K0.below h.bel K0.lt).at 1
            refine wpOp_step rfl (fun K hK0 => ?_)
            have hK : Hid _ := hK0
            clear hK0
            rw [if_pos (by rfl)]
            go_wp2_with fail
            exact hK.out _ _ ⟨_,_,_,true,_,_,_,_,_,_,.string d,_,_,_,rfl,Or.inl ⟨rfl, { h with o3 := fun _ => rfl, d3_2 := fun _ => e2, d4_3 := fun _ => rfl }⟩⟩
          · -- operation 4
            have e3 : y3 = true := by
              revert hc
              cases y3 <;> simp [Region.binds]
            have e1 : y1 = true := by
              revert hc
              cases y1 <;> simp [Region.binds]
            have r3 := h.o3 e3
            subst r3
            obtain ⟨a1, l1, c1, xs1, rfl, R1, N1, V1⟩ := h.o1 e1
            clear hc hi
            refine wpOp_step rfl (fun K hK0 => ?_)
            have hK : Hid _ := hK0
            clear hK0
            rw [if_pos (by rfl)]
            go_wp2_with (first | (go_at_call 109; go_must (refine (Parse_any d x (by omega) dd).mono ?_; rintro e x2 ⟨r, zs, rfl, hr, hnm, hv, hl, bb⟩)) | fail)
            obtain ⟨a9, l9, c9, rfl⟩ := hr.shape
            exact hK.out _ _ ⟨_,_,_,_,true,_,_,_,_,_,_,_,_,_,rfl,Or.inl ⟨rfl, { h.grow bb with o4 := fun _ => ⟨a9, l9, c9, zs, rfl, hr, hnm, ⟨hv, by omega⟩⟩, d4_3 := fun _ => e3, d4_1 := fun _ => e1 }⟩⟩
          · -- operation 5
            clear hc hi
            refine wpOp_step rfl (fun K hK0 => ?_)
            have hK : Hid _ := hK0
            clear hK0
            rw [if_pos (by rfl)]
            go_wp2_with fail
            exact hK.out _ _ ⟨_,_,_,_,_,true,_,_,_,_,_,_,_,_,rfl,Or.inl ⟨rfl, { h.grow ((Below.refl _ _).alloc (Nat.le_refl _) _) with o5 := fun _ => ⟨_, rfl, h.bel.size, Bx.new _ _ _⟩, ne := fun _ q => by obtain ⟨Y, e, _, K⟩ := h.o6 q; rw [e]; intro c; cases c; exact absurd K.lt (Nat.lt_irrefl _) }⟩⟩
          · -- operation 6
            clear hc hi
            refine wpOp_step rfl (fun K hK0 => ?_)
            have hK : Hid _ := hK0
            clear hK0
            rw [if_pos (by rfl)]
            go_wp2_with fail
            exact hK.out _ _ ⟨_,_,_,_,_,_,true,_,_,_,_,_,_,_,rfl,Or.inl ⟨rfl, { h.grow ((Below.refl _ _).alloc (Nat.le_refl _) _) with o6 := fun _ => ⟨_, rfl, h.bel.size, Bx.new _ _ _⟩, ne := fun q _ => by obtain ⟨Y, e, _, K⟩ := h.o5 q; rw [e]; intro c; cases c; exact absurd K.lt (Nat.lt_irrefl _) }⟩⟩
          · -- operation 7
            have e0 : y0 = true := by
              revert hc
              cases y0 <;> simp [Region.binds]
            have e1 : y1 = true := by
              revert hc
              cases y1 <;> simp [Region.binds]
            have e4 : y4 = true := by
              revert hc
              cases y4 <;> simp [Region.binds]
            have e5 : y5 = true := by
              revert hc
              cases y5 <;> simp [Region.binds]
            have e6 : y6 = true := by
              revert hc
              cases y6 <;> simp [Region.binds]
            have e3 := h.d4_3 e4
            have e2 := h.d3_2 e3
            obtain ⟨a1, l1, c1, xs, rfl, R1, N1, Q1⟩ := h.o1 e1
            obtain ⟨a2, l2, c2, zs, rfl, R2, N2, Q2⟩ := h.o4 e4
            obtain ⟨X, rfl, lX, KX⟩ := h.o5 e5
            obtain ⟨Y, rfl, lY, KY⟩ := h.o6 e6
            have ne : X ≠ Y := fun c => h.ne e5 e6 (by rw [c])
            have bl := h.bel
            clear h hc hi
            subst e0 e1 e2 e3 e4 e5 e6
            have xx := KX.1
            have xf := KX.2
            refine wpOp_step rfl (fun K hK0 => ?_)
            have hK : Hid _ := hK0
            clear hK0
            rw [if_pos (by rfl)]
            go_wp2_with fail
            exact hK.out _ _ ⟨true,true,true,true,true,true,true,_,_,_,_,_,_,_,rfl,Or.inr (Or.inl ⟨rfl, X, Y, a1, l1, c1, a2, l2, c2, xs, zs, rfl, rfl, ne, lX, lY, below_put bl lX _, rfl, rfl, R1.box KX, N1, Q1, R2.box KX, N2, Q2, KX.set _, KY.wr ((Wr.refl X 0 1 x).setCell 0 (by omega) _) ne.symm⟩)⟩
          · simp [Region.binds] at hc
        · rcases (show i = 0 ∨ i = 1 ∨ i = 2 ∨ i = 3 ∨ i = 4 ∨ i = 5 ∨ i = 6 ∨ i = 7 ∨ i = 8 by omega) with rfl | rfl | rfl | rfl | rfl | rfl | rfl | rfl | rfl
          · simp at hc
          · simp at hc
          · simp at hc
          · simp at hc
          · simp at hc
          · simp at hc
          · simp at hc
          · simp at hc
          · obtain ⟨X, Y, a1, l1, c1, a2, l2, c2, xs, zs, rfl, rfl, ne, lX, lY, bl, rfl, rfl, R1, N1, Q1, R2, N2, Q2, KX, KY⟩ := h
            clear hc hi
            have yy := KY.1
            have yf := KY.2
            refine wpOp_step rfl (fun K hK0 => ?_)
            have hK : Hid _ := hK0
            clear hK0
            rw [if_pos (by rfl)]
            go_wp2_with fail
            exact hK.out _ _ ⟨true,true,true,true,true,true,true,_,_,_,_,_,_,_,rfl,Or.inr (Or.inr ⟨rfl, X, Y, a1, l1, c1, a2, l2, c2, xs, zs, rfl, rfl, ne, lX, lY, below_put bl lY _, rfl, rfl, R1.box KY, N1, Q1, R2.box KY, N2, Q2, KX.wr ((Wr.refl Y 0 1 x).setCell 0 (by omega) _) ne, KY.set _⟩)⟩
        · rcases (show i = 0 ∨ i = 1 ∨ i = 2 ∨ i = 3 ∨ i = 4 ∨ i = 5 ∨ i = 6 ∨ i = 7 ∨ i = 8 by omega) with rfl | rfl | rfl | rfl | rfl | rfl | rfl | rfl | rfl <;> simp at hc
      · rintro listed a x ⟨y0, y1, y2, y3, y4, y5, y6, t50, t51, t52, t53, t54, t6, t7, rfl, h⟩ hn
        have al := all_listed (by decide +kernel) hn
        rcases h with ⟨rfl, h⟩ | ⟨rfl, h⟩ | ⟨rfl, h⟩
        · have z := al 7 (by decide)
          simp at z
        · have z := al 8 (by decide)
          simp at z
        · obtain ⟨X, Y, a1, l1, c1, a2, l2, c2, xs, zs, rfl, rfl, ne, lX, lY, bl, rfl, rfl, R1, N1, Q1, R2, N2, Q2, KX, KY⟩ := h
          refine hJ _ _ ?_
          go_meet
          case rel => exact ⟨X, Y, a1, l1, c1, a2, l2, c2, xs, zs, rfl, rfl, KX, KY, R1, N1, Q1, R2, N2, Q2, R.grow bl, bel' pr bl⟩
      · exact ⟨false, false, false, false, false, false, false, u50, u51, u52, u53, u54, undef, undef, rfl, Or.inl ⟨rfl, { bel := (Below.refl _ _).drew, o0 := (by intro q; cases q), o1 := (by intro q; cases q), o2 := (by intro q; cases q), o3 := (by intro q; cases q), o4 := (by intro q; cases q), o5 := (by intro q; cases q), o6 := (by intro q; cases q), ne := (by intro q; cases q), d1_0 := (by intro q; cases q), d3_2 := (by intro q; cases q), d4_3 := (by intro q; cases q), d4_1 := (by intro q; cases q) }⟩⟩
    case rest =>
      clear K0 R pr
      obtain ⟨X, Y, a1, l1, c1, a2, l2, c2, xs, zs, rfl, rfl, KX, KY, R1, N1, Q1, R2, N2, Q2, R, pr⟩ := hcut
      have x0 := KX.1
      have y0 := KY.1
      have G : ∀ W, Below wc.heap.size wc W → Calls Tryz.prog 103 #[.agg #[.slice a1 l1 c1], .agg #[.slice a2 l2 c2]] W fun e w' => ∃ r ws, e = .returned (.agg #[r]) ∧ Rd w' r ws ∧ Nm ws ∧ val ws = Int.gcd (Dc.num z.data.toList : Int) (Dc.num d.data.toList : Int) ∧ Below W.heap.size W w' := fun W b => by
        have := GCD_any (.slice a1 l1 c1) (.slice a2 l2 c2) xs zs W (R1.grow b) (R2.grow b) N1 N2 (by omega) (by omega)
        rw [Q1.1, Q2.1] at this
        exact this
      have Q1' : Hid (val xs = (Dc.num z.data.toList : Int) ∧ xs.length ≤ 400) := Q1
      have Q2' : Hid (val zs = (Dc.num d.data.toList : Int) ∧ zs.length ≤ 400) := Q2
      clear Q1 Q2 dz dd
      generalize hg : Int.gcd (Dc.num z.data.toList : Int) (Dc.num d.data.toList : Int) = q at G
      have Hg : Hid (Int.gcd (Dc.num z.data.toList : Int) (Dc.num d.data.toList : Int) = q) := hg
      clear hg
      have pb := Below.refl wc.heap.size wc
      by_cases h : q = 1
      · have Hq : Hid (q = 1) := h
        have hqd : decide ((q : Int) = 1) = true := decide_eq_true (by omega)
        clear h
        go_wp2_with (first
          | (go_at_call 103; go_must (refine (G _ pb).mono ?_; rintro e w5 ⟨r, ws, rfl, hr, hnm, hv, b5⟩; obtain ⟨a9, l9, c9, rfl⟩ := hr.shape))
          | (go_at_call 110; go_must (refine (IsOne_any _ ws _ hr hnm).mono ?_; rw [hv, hqd]; rintro e w6 ⟨rfl, b6⟩; have bb := bel' b5 b6; have x0' := (KX.below bb).1; have y0' := (KY.below bb).1; replace R := R.grow bb; replace pr := bel' pr bb; have r0 := R.c0; have r1 := R.c1; have r2 := R.c2; have s0 := R.f0; have s1 := R.f1; have s2 := R.f2; clear b5 b6))
          | fail)
        obtain ⟨F0, F1, F2⟩ := R.put (.bool g) (.slice a1 l1 c1) (.slice a2 l2 c2)
        exact bodyPost_ret (v := .tuple #[.agg #[.bool g, .slice a1 l1 c1, .slice a2 l2 c2], .int .i64 0]) (by simp [results, Tryz.results47, go_sem, F0, F1, F2]) rfl ⟨Or.inr ⟨Hg.out.trans Hq.out, _, _, xs, zs, rfl, Rd.putF (R1.grow bb) R, N1, Q1'.out.1, Q1'.out.2, Rd.putF (R2.grow bb) R, N2, Q2'.out.1, Q2'.out.2⟩, bset3 pr (by omega)⟩
      · have Hq : Hid (q ≠ 1) := h
        have hqd : decide ((q : Int) = 1) = false := decide_eq_false (by omega)
        clear h
        go_wp2_with (first
          | (go_at_call 103; go_must (refine (G _ pb).mono ?_; rintro e w5 ⟨r, ws, rfl, hr, hnm, hv, b5⟩; obtain ⟨a9, l9, c9, rfl⟩ := hr.shape))
          | (go_at_call 110; go_must (refine (IsOne_any _ ws _ hr hnm).mono ?_; rw [hv, hqd]; rintro e w6 ⟨rfl, b6⟩; have bb := bel' b5 b6; replace R := R.grow bb; replace pr := bel' pr bb; have r0 := R.c0; have r1 := R.c1; have r2 := R.c2; have s0 := R.f0; have s1 := R.f1; have s2 := R.f2; clear b5 b6))
          | fail)
        obtain ⟨F0, F1, F2⟩ := R.put (.bool false) (.slice none 0 0) (.slice none 0 0)
        exact bodyPost_ret (v := noR 5) (by simp [results, Tryz.results47, go_sem, F0, F1, F2]) rfl ⟨Or.inl ⟨fun e => Hq.out (Hg.out.symm.trans e), rfl⟩, bset3 pr (by omega)⟩
end Go.Proofs.YtebilgnmnambnaaGreatDoor.Mo
