import Derived.Test.YtfalncbcomlelaaGreatDoorPa1
import Derived.Laws.Strings
namespace Go.Proofs.YtfalncbcomlelaaGreatDoor
open Go.RowKit Tn

def strLen : Value → Nat | .string b => b.size | _ => 0
theorem ex_to (D : ByteArray) (n : Nat) : (D.extract 0 n).data.toList = D.data.toList.take n := by simp
theorem ex_from (D : ByteArray) (n : Nat) : (D.extract n D.size).data.toList = D.data.toList.drop n := by
  have : D.size = D.data.toList.length := by rw [Array.length_toList]; rfl
  rw [this]
  simp only [ByteArray.data_extract, Array.toList_extract, List.extract_eq_take_drop]
  rw [List.take_of_length_le (by rw [List.length_drop]; omega)]
theorem own_growb {w w' : World} {base n : Nat} {e : TypeId} {v : Value} {xs : List Value} (h : w.ownsRow base e 1 v n xs) (k : Below w.heap.size w w') : w'.ownsRow base e 1 v n xs := by
  obtain ⟨h1, h2⟩ := h
  refine ⟨h1, ?_⟩
  rcases h2 with h2 | ⟨g, cap, cur, e1, e2, e3, e4⟩
  · exact Or.inl h2
  · exact Or.inr ⟨g, cap, cur, e1, e2, (k.block g (Own.lt ⟨cur, _, e3⟩)).trans e3, e4⟩
/-- Where Parse stands behind c digits. -/
structure Ps (l : List UInt8) (c : Nat) (D : ByteArray) (X : List Int) : Prop where
  le : c ≤ l.length
  rest : D.data.toList = l.drop c
  part : c = 0 ∧ X = [] ∨ (l.length - c) % 19 = 0
  wd : Wd X
  v : val X = (Dc.num (l.take c) : Int)
  len : X.length ≤ (c + 18) / 19
theorem Ps.size {l : List UInt8} {c : Nat} {D : ByteArray} {X : List Int} (h : Ps l c D X) : D.size = l.length - c := by
  have : D.size = D.data.toList.length := by rw [Array.length_toList]; rfl
  rw [this, h.rest, List.length_drop]
theorem Ps.next {l : List UInt8} {c n : Nat} {D : ByteArray} {X Y : List Int} (h : Ps l c D X) (hr : 0 < D.size) (hn : n = (D.size - 1) % 19 + 1) (hY : Wd Y) (hv : val Y = val X * 10000000000000000000 + (Dc.num ((l.drop c).take n) : Int)) (hl : Y.length ≤ X.length + 1) :
    Ps l (c + n) (D.extract n D.size) Y := by
  have hs := h.size
  have n1 : c + n ≤ l.length := by omega
  refine ⟨n1, by rw [ex_from, h.rest, List.drop_drop], Or.inr (by omega), hY, ?_, ?_⟩
  · rw [hv, h.v, List.take_add, Dc.num_append, List.length_take, List.length_drop, Nat.min_eq_left (by omega)]
    rcases h.part with ⟨rfl, _⟩ | hp
    · simp [Dc.num]
    · have : n = 19 := by omega
      subst this
      simp
  · have := h.len
    rcases h.part with ⟨rfl, rfl⟩ | hp
    · simp at hl
      omega
    · omega

set_option maxHeartbeats 800000 in
set_option maxRecDepth 100000 in
/-- whole.Parse of digits. -/
theorem Parse_any (s : ByteArray) (w : World) (hs : s.size ≤ 1000000) (hd : ∀ c ∈ s.data.toList, Dc.Dg c) :
    Calls Tryz.prog 66 #[.string s] w fun e w' => ∃ r zs, e = .returned (.agg #[r]) ∧ Rd w' r zs ∧ Nm zs ∧ val zs = (Dc.num s.data.toList : Int) ∧ zs.length ≤ s.size / 19 + 1 ∧ Below w.heap.size w w' := by
  obtain ⟨l, hl⟩ : ∃ l, s.data.toList = l := ⟨_, rfl⟩
  have HL : Hid (s.data.toList = l) := hl
  have hls : l.length = s.size := by rw [← hl, Array.length_toList]; rfl
  rw [hl] at hd ⊢
  have HD : Hid (∀ c ∈ l, Dc.Dg c) := hd
  clear hd hl
  have K := Bx.new w (.slice none 0 0) 56
  have u1 : ((s.size : Int)).tdiv 19 = (s.size : Int) / 19 := Int.tdiv_eq_ediv_of_nonneg (by omega)
  obtain ⟨i, hi, hz0, hz1, hz2⟩ := infoW
  go_enter Tryz.func66, Tryz.ntmps66
  go_wp2_with (first
    | (at_make; refine wpList_make_own _ rfl _ _ 54 rfl (w.heap.size + 1) 95 i (.int .u64 0) 1 Tryz.underlying54 hi hz0 hz1 .i64 .i64 _ (s.size / 19 + 1) rfl rfl (by omega) (by rw [hz2]; omega) (by unfold maxLen; omega) (by simp) ?_; intro w1 own1 gr1; simp only [World.size_alloc] at own1)
    | fail)
  have hb1 : Below (w.heap.size + 1) (w.alloc (.cells #[.slice none 0 0] 56)) w1 := ⟨gr1.os, gr1.tape, gr1.output, gr1.size, fun k hk => gr1.block k (by simp; omega) (by simp)⟩
  go_loopw [0, 3] (fun d v wr => ∃ (c : Nat) (D : ByteArray) (X : List Int) (g cap : Nat), d = .string D ∧ v = .slice (some ⟨g, 0, none⟩) X.length cap ∧ Ps l c D X ∧ wr.ownsRow (w.heap.size + 1) 95 1 (.slice (some ⟨g, 0, none⟩) X.length cap) X.length (X.map (Value.int .u64)) ∧ Below (w.heap.size + 1) (w.alloc (.cells #[.slice none 0 0] 56)) wr) (fun d _ _ => strLen d)
  case atStart => exact ⟨0, s, [], _, _, rfl, rfl, ⟨Nat.zero_le _, by rw [HL.out]; rfl, Or.inl ⟨rfl, rfl⟩, Wd.nil, by simp [val, Dc.num], by simp⟩, own1, hb1⟩
  case round =>
    obtain ⟨c, D, X, g, cap, rfl, rfl, P, own, hb⟩ := hrel
    have HP : Hid (Ps l c D X) := P
    have hsz := P.size
    have hXl := P.len
    have hcl := P.le
    clear P
    have gl := ownw_lt own
    have gc := ownw_cap own
    have hbs := hb.size
    have hbs' : w.heap.size + 1 ≤ wr.heap.size := by simpa using hbs
    by_cases hr : 0 < D.size
    · obtain ⟨n, hn⟩ : ∃ n, (D.size - 1) % 19 + 1 = n := ⟨_, rfl⟩
      have n1 : 1 ≤ n := by omega
      have n2 : n ≤ 19 := by omega
      have n3 : n ≤ D.size := by omega
      have v1 : ((D.size : Int) - 1).tmod 19 = ((D.size : Int) - 1) % 19 := Int.tmod_eq_emod_of_nonneg (by omega)
      have v2 : ((D.size : Int) - 1) % 19 + 1 = (n : Int) := by omega
      have n3' : (n : Int) ≤ (D.size : Int) := by omega
      obtain ⟨G, hG⟩ : ∃ G, Dc.num ((l.drop c).take n) = G := ⟨_, rfl⟩
      have PU := fun W => Tryz.strconv_ParseUint_10_at64_ok (D.extract 0 n) (by rw [ByteArray.size_extract]; omega) G (by
        rw [ex_to, HP.out.rest, ← hG]
        refine Dc.parse19B _ (fun c hc => HD.out c (List.mem_of_mem_drop (List.mem_of_mem_take hc))) ?_ (by rw [List.length_take]; omega)
        intro e
        have := congrArg List.length e
        rw [List.length_take, List.length_drop] at this
        simp at this
        omega) W
      have G1 : G < 18446744073709551616 := by
        have := Dc.num_lt ((l.drop c).take n) (fun c hc => HD.out c (List.mem_of_mem_drop (List.mem_of_mem_take hc)))
        rw [hG, List.length_take, List.length_drop, Nat.min_eq_left (by omega)] at this
        have p : 10 ^ n ≤ 10 ^ 19 := Nat.pow_le_pow_right (by decide) n2
        have e19 : (10 : Nat) ^ 19 = 10000000000000000000 := by decide
        omega
      have HG : Hid (Dc.num ((l.drop c).take n) = G) := hG
      have HN : Hid (n = (D.size - 1) % 19 + 1) := hn.symm
      have HG1 : Hid (G < 18446744073709551616) := G1
      have HSZ : Hid (D.size = l.length - c) := hsz
      have hDs : D.size ≤ s.size := by omega
      clear hG hn G1 hsz
      go_wp2_with (go_at_call 95; go_must ((with_reducible refine (PU _).mono ?_)); rintro e w2 ⟨rfl, hw2⟩; have b2 : Below wr.heap.size wr w2 := (by rcases hw2 with rfl | rfl; exact Below.refl _ _; exact Lib.bytesWorld_below _ _ _); clear hw2)
      have own2 := own_growb own b2
      have hb2 := hb.trans (b2.mono hbs')
      have gl2 := ownw_lt own2
      go_loopw [7, 36] (fun cy i wr2 => ∃ (k : Nat) (C : Int) (Z : List Int), k ≤ X.length ∧ i = .int .i64 k ∧ cy = .int .u64 C ∧ 0 ≤ C ∧ C ≤ 18446744073709551615 ∧ Hid (Part Z X k ∧ val (Z.take k) + pw k * C = val (X.take k) * 10000000000000000000 + (G : Int)) ∧ wr2.ownsRow (w.heap.size + 1) 95 1 (.slice (some ⟨g, 0, none⟩) X.length cap) X.length (Z.map (Value.int .u64)) ∧ Below (w.heap.size + 1) (w.alloc (.cells #[.slice none 0 0] 56)) wr2) (fun _ i _ => X.length - (intOf i).toNat)
      case atStart => exact ⟨0, (G : Int), X, Nat.zero_le _, rfl, rfl, by omega, by have := HG1.out; omega, ⟨Part.refl HP.out.wd 0, by simp [val, pw]⟩, own2, hb2⟩
      case round =>
        rename World => wr2
        obtain ⟨k, C, Z, hk, rfl, rfl, c0, c1, hz, own3, hb3⟩ := hrel
        have hZl : Z.length = X.length := hz.out.1.len
        by_cases hlt : k < X.length
        · have ec : wr2.cell? ⟨g, k, none⟩ = some (.int .u64 (nth X k)) := by
            rw [← hz.out.1.nth]
            have o := own3
            rw [← hZl] at o
            exact ownw_at o k (by omega)
          have ef : wr2.frozen? ⟨g, k, none⟩ = false := own3.frozenAt k
          have gl3 := ownw_lt own3
          have bx := nth_bd HP.out.wd k
          obtain ⟨x, hx⟩ : ∃ x, nth X k = x := ⟨_, rfl⟩
          have HX : Hid (nth X k = x) := hx
          rw [hx] at ec bx
          have M := fun W => mulAdd_any x 10000000000000000000 C W bx.1 bx.2 (by decide) (by decide) c0 (by omega)
          have hx63 : 0 ≤ x := bx.1
          have HB3 : Hid (Below (w.heap.size + 1) (w.alloc (.cells #[.slice none 0 0] 56)) wr2) := hb3
          clear hx bx hb3
          go_wp2_with (go_at_call 96; (with_reducible refine (M _).mono ?_); rintro e w3 ⟨lo, hi, rfl, l0, l1, i0, i1, he, hw3⟩; have hw4 := hw3.symm; subst hw4; have HE : Hid (lo + 18446744073709551616 * hi = x * 10000000000000000000 + C) := he; have i2 : hi ≤ 18446744073709551615 := (by omega); have HL1 : Hid (lo < 18446744073709551616) := l1; clear he hw3 l1 i1)
          go_roundw
          case rel =>
            have m := mul_more hz.out.1 hlt hz.out.2 l0 HL1.out (by rw [HX.out]; exact HE.out)
            refine ⟨k + 1, hi, Z.set k lo, by omega, by go_num, rfl, i0, i2, m, ?_, HB3.out.setCell (p := ⟨g, k, none⟩) gl3.1 _⟩
            have o := own3
            rw [← hZl] at o ⊢
            exact ownw_set o k lo
          case measure => simp [intOf]; omega
        · obtain rfl : k = X.length := by omega
          have V : Hid (Wd Z ∧ val Z + pw X.length * C = val X * 10000000000000000000 + (G : Int)) := by
            have := hz.out.2
            rw [List.take_length, List.take_of_length_le (by omega)] at this
            exact ⟨hz.out.1.wd, this⟩
          clear hz
          rw [← hZl] at own3 V ⊢
          have HZ : Hid (Z.length = X.length) := hZl
          have hZ2 : Z.length ≤ 1000000 := by omega
          clear hZl hXl gc gl own own2 gl2
          have gl3 := ownw_lt own3
          have hb3s : w.heap.size + 1 ≤ wr2.heap.size := by simpa using hb3.size
          by_cases hC : 0 < C
          · go_wp2_with (first
              | (at_builtin; (refine wpList_pushw rfl _ _ rfl g cap Z rfl (w.heap.size + 1) (own_growb own3 ((Below.refl _ _).alloc (Nat.le_refl _) _)) (by omega) _ _ C rfl (by simp) (by simp; omega) ?_; intro g' cap' w4 own4 b4; have hb4 := (hb3.alloc (by simpa using hb3s) _).trans b4))
              | fail)
            go_roundw
            case rel =>
              refine ⟨c + n, D.extract n D.size, Z ++ [C], g', cap', rfl, by simp, HP.out.next hr HN.out (V.out.1.append (Wd.cons c0 (by omega) Wd.nil)) ?_ (by rw [List.length_append, HZ.out]; simp), own4, hb4⟩
              rw [val_append, HG.out, ← V.out.2, HZ.out]
              simp [val]
            case measure =>
              have : (D.extract n D.size).size = D.size - n := by rw [ByteArray.size_extract]; omega
              simp only [strLen, this]
              omega
          · obtain rfl : C = 0 := by omega
            go_wp2
            go_roundw
            case rel =>
              refine ⟨c + n, D.extract n D.size, Z, g, cap, rfl, rfl, HP.out.next hr HN.out V.out.1 ?_ (by rw [HZ.out]; omega), own3, hb3⟩
              rw [HG.out, ← V.out.2]
              simp
            case measure =>
              have : (D.extract n D.size).size = D.size - n := by rw [ByteArray.size_extract]; omega
              simp only [strLen, this]
              omega
    · have hc : Hid (c = l.length) := by show _ = _; omega
      have hv : Hid (val X = (Dc.num l : Int)) := by
        show _ = _
        rw [HP.out.v, hc.out, List.take_length]
      have hxl : Hid (X.length ≤ s.size / 19 + 1) := by show _ ≤ _; omega
      have hwd : Hid (Wd X) := HP.out.wd
      have hcells : Hid (0 < X.length → ∃ b o, (some (⟨g, 0, none⟩ : Addr)) = some ⟨b, o, none⟩ ∧ Cells wr b o X) := fun _ => ⟨g, 0, rfl, fun i hi => by rw [Nat.zero_add]; exact ownw_at own i hi⟩
      have K2 : Bx wr w.heap.size (.slice none 0 0) := by
        have l0 : w.heap.size < w.heap.size + 1 := by omega
        exact ⟨(hb.cell (p := ⟨w.heap.size, 0, none⟩) l0).trans K.1, (hb.frozen (p := ⟨w.heap.size, 0, none⟩) l0).trans K.2, by obtain ⟨t, e⟩ := K.3; exact ⟨t, (hb.block _ l0).trans e⟩⟩
      have hx0 : D.size = 0 := by omega
      have HD0 : Hid (D.size = 0) := hx0
      have hr' : ¬ (0 : Int) < (D.size : Int) := by omega
      have prw : Below w.heap.size w wr := below_alloc1 hb
      clear hsz hcl hXl hx0
      go_wp2_with (go_at_call 85; (refine (trim_rd _ _ _ X _ rfl hwd.out (by omega) (by omega) hcells.out).mono ?_); rintro e w5 ⟨n5, zs, rfl, hzs, hrd, hnm, hvz, b5⟩; replace K2 := K2.below b5; have k0 := K2.1; have kf := K2.2)
      have v1 : (w5.setCell ⟨w.heap.size, 0, none⟩ (.slice (some ⟨g, 0, none⟩) n5 cap)).cell? ⟨w.heap.size, 0, none⟩ = some (.slice (some ⟨g, 0, none⟩) n5 cap) := World.cell?_setCell_same _ _ _ k0
      refine bodyPost_ret (v := .agg #[.slice (some ⟨g, 0, none⟩) n5 cap]) (by simp [results, Tryz.results66, go_sem, v1]) rfl ⟨_, zs, rfl, hrd.put (by intro b o l c e; simp at e; omega), hnm, by rw [hvz, hv.out], ?_, below_put (prw.trans (b5.mono prw.size)) (Nat.le_refl _) _⟩
      have := hxl.out
      rw [hzs, List.length_take]
      omega
end Go.Proofs.YtfalncbcomlelaaGreatDoor
