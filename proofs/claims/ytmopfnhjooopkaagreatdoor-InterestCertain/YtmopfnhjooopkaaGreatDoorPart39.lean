import Derived.Test.YtmopfnhjooopkaaGreatDoorPart38
import Derived.Test.YtmopfnhjooopkaaGreatDoorPart37
import Derived.Test.YtmopfnhjooopkaaGreatDoorPart31
import Derived.Test.YtmopfnhjooopkaaGreatDoorPart35
import Derived.Test.YtmopfnhjooopkaaGreatDoorPart06

namespace Go.Proofs.YtmopfnhjooopkaaGreatDoor.Mo
open Go.RowKit Tn

theorem nb3 (g : Bool) (a : Option Addr) (l c : Nat) (a' : Option Addr) (l' c' : Nat) : ∀ (i : Nat) z, (#[Value.bool g, .slice a l c, .slice a' l' c'] : Array Value)[i]? ≠ some (.int .u64 z)
  | 0, _ => by simp
  | 1, _ => by simp
  | 2, _ => by simp
  | i + 3, _ => by simp
theorem bsk {w : World} {n b : Nat} {c : Array Value} {t : TypeId} (h : Blk w n c t) (hb : b ≠ n) (i : Nat) (v : Value) : Blk (w.setCell ⟨b, i, none⟩ v) n c t := by
  have h' : w.heap[n]? = some (.cells c t (0, 0)) := h
  show (w.setCell ⟨b, i, none⟩ v).heap[n]? = _
  simp [World.setCell, Array.getElem?_modify, h', hb]
theorem bput3 {w : World} {n : Nat} {c : Array Value} {t : TypeId} (h : Blk w n c t) (p q r : Value) : Blk (((w.setCell ⟨n, 0, none⟩ p).setCell ⟨n, 1, none⟩ q).setCell ⟨n, 2, none⟩ r) n (((c.setIfInBounds 0 p).setIfInBounds 1 q).setIfInBounds 2 r) t := bput (bput (bput h 0 p) 1 q) 2 r
/-- The sum on its way. -/
def Sm (x : World) (S : Nat) (a : Option Addr) (l c : Nat) (a' : Option Addr) (l' c' : Nat) (A D : Int) : Prop := Blk x S #[.bool false, .slice a l c, .slice a' l' c'] 57 ∧ Nn x a l c A ∧ Nn x a' l' c' D
theorem Sm.grow {x x' : World} {S : Nat} {a : Option Addr} {l c : Nat} {a' : Option Addr} {l' c' : Nat} {A D : Int} (h : Sm x S a l c a' l' c' A D) (b : Below x.heap.size x x') : Sm x' S a l c a' l' c' A D := ⟨h.1.below b h.1.lt, h.2.1.grow b, h.2.2.grow b⟩
theorem Sm.num {x : World} {S : Nat} {a : Option Addr} {l c : Nat} {a' : Option Addr} {l' c' : Nat} {A D B : Int} (h : Sm x S a l c a' l' c' A D) {b : Option Addr} {k e : Nat} (n : Nn x b k e B) : Sm (x.setCell ⟨S, 1, none⟩ (.slice b k e)) S b k e a' l' c' B D :=
  ⟨by simpa using bput h.1 1 (.slice b k e), n.set (n.off64 h.1 (nb3 _ _ _ _ _ _ _)) _ _, h.2.2.set (h.2.2.off64 h.1 (nb3 _ _ _ _ _ _ _)) _ _⟩
theorem Sm.den {x : World} {S : Nat} {a : Option Addr} {l c : Nat} {a' : Option Addr} {l' c' : Nat} {A D B : Int} (h : Sm x S a l c a' l' c' A D) {b : Option Addr} {k e : Nat} (n : Nn x b k e B) : Sm (x.setCell ⟨S, 2, none⟩ (.slice b k e)) S a l c b k e A B :=
  ⟨by simpa using bput h.1 2 (.slice b k e), h.2.1.set (h.2.1.off64 h.1 (nb3 _ _ _ _ _ _ _)) _ _, n.set (n.off64 h.1 (nb3 _ _ _ _ _ _ _)) _ _⟩
theorem Sm.sign {x : World} {S : Nat} {a : Option Addr} {l c : Nat} {a' : Option Addr} {l' c' : Nat} {A D : Int} (h : Sm x S a l c a' l' c' A D) : Sm (x.setCell ⟨S, 0, none⟩ (.bool false)) S a l c a' l' c' A D :=
  ⟨by simpa using bput h.1 0 (.bool false), h.2.1.set (h.2.1.off64 h.1 (nb3 _ _ _ _ _ _ _)) _ _, h.2.2.set (h.2.2.off64 h.1 (nb3 _ _ _ _ _ _ _)) _ _⟩
theorem Py.set {x : World} {g N i : Nat} {off : Int} {am : Nat → Int} (h : Py x g N i off am) {S : Nat} {cs : Array Value} {t : TypeId} (K : Blk x S cs t) (hc : ∀ (i : Nat) z, cs[i]? ≠ some (.int .u64 z)) (ne : S ≠ g) (k : Nat) (v : Value) : Py (x.setCell ⟨S, k, none⟩ v) g N i off am := by
  obtain ⟨c2, B, e, ni, fj⟩ := h
  refine ⟨c2, bsk B ne k v, e, ni, fun j hj => ?_⟩
  obtain ⟨h1, h2, a, l, c, a', l', c', h3, h4, n⟩ := fj j hj
  exact ⟨h1, h2, a, l, c, a', l', c', h3, h4, n.set (n.off64 K hc) _ _⟩
/-- The second of two answers. -/
def ext1 : Value → Value
  | .tuple xs => xs.getD 1 undef
  | _ => undef
structure WR9 (W x : World) (V0 V1 V2 V3 V4 V5 V6 V7 V8 V9 V10 V11 V15 : Value) (N12 N13 N14 : Int) (y0 y1 y2 y3 y4 y5 y6 y7 y8 y9 y10 y11 y12 y13 y14 y15 y16 : Bool) (t46 t47 t48 t49 t50 t51 t52 t53 t54 t55 t56 t57 t58 t59 t45 t60 t61 : Value) : Prop where
  bel : Below W.heap.size W x
  o0 : y0 = true → t46 = V0
  o1 : y1 = true → t47 = V1
  o2 : y2 = true → t48 = V2
  o3 : y3 = true → t49 = V3
  o4 : y4 = true → t50 = V4
  o5 : y5 = true → t51 = V5
  o6 : y6 = true → t52 = V6
  o7 : y7 = true → t53 = V7
  o8 : y8 = true → t54 = V8
  o9 : y9 = true → t55 = V9
  o10 : y10 = true → t56 = V10
  o11 : y11 = true → t57 = V11
  o15 : y15 = true → t60 = V15
  o12 : y12 = true → NV N12 t58 x
  o13 : y13 = true → TV false N13 t59 x
  o14 : y14 = true → TV false N14 t45 x
  o16 : y16 = true → t61 = ext1 t45
  d16_14 : y16 = true → y14 = true
theorem WR9.grow {W x x' : World} {V0 V1 V2 V3 V4 V5 V6 V7 V8 V9 V10 V11 V15 : Value} {N12 N13 N14 : Int} {y0 y1 y2 y3 y4 y5 y6 y7 y8 y9 y10 y11 y12 y13 y14 y15 y16 : Bool} {t46 t47 t48 t49 t50 t51 t52 t53 t54 t55 t56 t57 t58 t59 t45 t60 t61 : Value} (h : WR9 W x V0 V1 V2 V3 V4 V5 V6 V7 V8 V9 V10 V11 V15 N12 N13 N14 y0 y1 y2 y3 y4 y5 y6 y7 y8 y9 y10 y11 y12 y13 y14 y15 y16 t46 t47 t48 t49 t50 t51 t52 t53 t54 t55 t56 t57 t58 t59 t45 t60 t61) (b : Below x.heap.size x x') : WR9 W x' V0 V1 V2 V3 V4 V5 V6 V7 V8 V9 V10 V11 V15 N12 N13 N14 y0 y1 y2 y3 y4 y5 y6 y7 y8 y9 y10 y11 y12 y13 y14 y15 y16 t46 t47 t48 t49 t50 t51 t52 t53 t54 t55 t56 t57 t58 t59 t45 t60 t61 where
  bel := bel' h.bel b
  o0 := h.o0
  o1 := h.o1
  o2 := h.o2
  o3 := h.o3
  o4 := h.o4
  o5 := h.o5
  o6 := h.o6
  o7 := h.o7
  o8 := h.o8
  o9 := h.o9
  o10 := h.o10
  o11 := h.o11
  o15 := h.o15
  o16 := h.o16
  o12 := fun u => (h.o12 u).grow b
  o13 := fun u => (h.o13 u).grow b
  o14 := fun u => (h.o14 u).grow b
  d16_14 := h.d16_14
/-- All that stays. -/
structure Rs (w x : World) (g N : Nat) (off : Int) (am : Nat → Int) (P1 : Option Addr) (M1 C1 : Nat) (P2 : Option Addr) (M2 C2 : Nat) (p q : Int) : Prop where
  py : Py x g N N off am
  gb : Blk x w.heap.size #[.bool false, .slice P1 M1 C1, .slice P2 M2 C2] 57
  np : Nn x P1 M1 C1 p
  nq : Nn x P2 M2 C2 q
  rb : Blk x (w.heap.size + 1) #[.bool false, .slice none 0 0, .slice none 0 0] 57
  bel : Below w.heap.size w x
theorem Rs.grow {w x x' : World} {g N : Nat} {off : Int} {am : Nat → Int} {P1 : Option Addr} {M1 C1 : Nat} {P2 : Option Addr} {M2 C2 : Nat} {p q : Int} (h : Rs w x g N off am P1 M1 C1 P2 M2 C2 p q) (b : Below x.heap.size x x') : Rs w x' g N off am P1 M1 C1 P2 M2 C2 p q :=
  ⟨h.py.grow b, h.gb.below b h.gb.lt, h.np.grow b, h.nq.grow b, h.rb.below b h.rb.lt, bel' h.bel b⟩
theorem Rs.set {w x : World} {g N : Nat} {off : Int} {am : Nat → Int} {P1 : Option Addr} {M1 C1 : Nat} {P2 : Option Addr} {M2 C2 : Nat} {p q : Int} (h : Rs w x g N off am P1 M1 C1 P2 M2 C2 p q) {S : Nat} {a : Option Addr} {l c : Nat} {a' : Option Addr} {l' c' : Nat} {A D : Int} (K : Sm x S a l c a' l' c' A D) (n1 : S ≠ g) (n2 : w.heap.size + 1 < S) (i : Nat) (v : Value) : Rs w (x.setCell ⟨S, i, none⟩ v) g N off am P1 M1 C1 P2 M2 C2 p q :=
  ⟨h.py.set K.1 (nb3 _ _ _ _ _ _ _) n1 i v, bsk h.gb (by omega) i v, h.np.set (h.np.off64 K.1 (nb3 _ _ _ _ _ _ _)) _ _, h.nq.set (h.nq.off64 K.1 (nb3 _ _ _ _ _ _ _)) _ _, bsk h.rb (by omega) i v, h.bel.setCell (p := ⟨S, i, none⟩) (show w.heap.size ≤ S by omega) v⟩
set_option maxRecDepth 100000 in
set_option maxHeartbeats 60000000 in
theorem worth_n (g N : Nat) (off : Int) (am : Nat → Int) (P1 : Option Addr) (M1 C1 : Nat) (P2 : Option Addr) (M2 C2 : Nat) (p q : Int) (w : World) (hN : N ≤ 130) (h0 : 0 ≤ off) (h1 : off ≤ 1) (PY : Py w g N N off am) (NP : Nn w P1 M1 C1 p) (NQ : Nn w P2 M2 C2 q)
    (PW1 : ∀ x, Nn x P1 M1 C1 p → Calls Tryz.prog 55 #[.agg #[.slice P1 M1 C1], .int .i64 1] x fun e w' => ∃ a l c, e = .returned (.agg #[.slice a l c]) ∧ Nn w' a l c (p) ∧ Below x.heap.size x w')
    (PW2 : ∀ x, Nn x P2 M2 C2 q → Calls Tryz.prog 55 #[.agg #[.slice P2 M2 C2], .int .i64 1] x fun e w' => ∃ a l c, e = .returned (.agg #[.slice a l c]) ∧ Nn w' a l c (q) ∧ Below x.heap.size x w')
    (MU1 : ∀ x (i : Nat) a l c a' l' c', i < N → Nn x a l c (wn am p q i) → Nn x a' l' c' p → Calls Tryz.prog 53 #[.agg #[.slice a l c], .agg #[.slice a' l' c']] x fun e w' => ∃ a l c, e = .returned (.agg #[.slice a l c]) ∧ Nn w' a l c (wn am p q i * p) ∧ Below x.heap.size x w')
    (MU2 : ∀ x (i : Nat) a l c a' l' c', i < N → Nn x a l c (q ^ i) → Nn x a' l' c' q → Calls Tryz.prog 53 #[.agg #[.slice a l c], .agg #[.slice a' l' c']] x fun e w' => ∃ a l c, e = .returned (.agg #[.slice a l c]) ∧ Nn w' a l c (q ^ (i + 1)) ∧ Below x.heap.size x w')
    (MU3 : ∀ x (i : Nat) a l c a' l' c', i < N → Nn x a l c (am (i + 1)) → Nn x a' l' c' (q ^ i) → Calls Tryz.prog 53 #[.agg #[.slice a l c], .agg #[.slice a' l' c']] x fun e w' => ∃ a l c, e = .returned (.agg #[.slice a l c]) ∧ Nn w' a l c (am (i + 1) * q ^ i) ∧ Below x.heap.size x w')
    (PS : ∀ x (i : Nat) a l c a' l' c', i < N → Nn x a l c (wn am p q i * p) → Nn x a' l' c' (am (i + 1) * q ^ i) → Calls Tryz.prog 139 #[.bool false, .agg #[.slice a l c], .bool false, .agg #[.slice a' l' c']] x fun e w' => ∃ a l c, e = .returned (.tuple #[.bool false, .agg #[.slice a l c]]) ∧ Nn w' a l c (wn am p q (i + 1)) ∧ Below x.heap.size x w') :
    Calls Tryz.prog 205 #[.slice (some ⟨g, 0, none⟩) N N, .agg #[.bool false, .slice P1 M1 C1, .slice P2 M2 C2]] w fun e w' => ∃ a l c a' l' c', e = .returned (.agg #[.bool false, .slice a l c, .slice a' l' c']) ∧ Nn w' a l c (wn am p q N) ∧ Nn w' a' l' c' (q ^ (N - 1)) ∧ Below w.heap.size w w' := by
  have O1 := fun x => Of_n 1 x (by decide) (by decide)
  have lg : g < w.heap.size := by obtain ⟨cs, K, _⟩ := PY; exact K.lt
  have KG := Blk.new w #[.bool false, .slice P1 M1 C1, .slice P2 M2 C2] 57
  have al1 : Below w.heap.size w (w.alloc (.cells #[.bool false, .slice P1 M1 C1, .slice P2 M2 C2] 57)) := (Below.refl _ _).alloc (Nat.le_refl _) _
  have KZ := Blk.new (w.alloc (.cells #[.bool false, .slice P1 M1 C1, .slice P2 M2 C2] 57)) #[.bool false, .slice none 0 0, .slice none 0 0] 57
  have al2 := (Below.refl (w.alloc (.cells #[.bool false, .slice P1 M1 C1, .slice P2 M2 C2] 57)).heap.size (w.alloc (.cells #[.bool false, .slice P1 M1 C1, .slice P2 M2 C2] 57))).alloc (Nat.le_refl _) (.cells #[.bool false, .slice none 0 0, .slice none 0 0] 57)
  have R0 : Rs w ((w.alloc (.cells #[.bool false, .slice P1 M1 C1, .slice P2 M2 C2] 57)).alloc (.cells #[.bool false, .slice none 0 0, .slice none 0 0] 57)) g N off am P1 M1 C1 P2 M2 C2 p q :=
    ⟨(PY.grow al1).grow al2, KG.below al2 KG.lt, (NP.grow al1).grow al2, (NQ.grow al1).grow al2, by simpa using KZ, bel' al1 al2⟩
  clear KG al1 KZ al2 PY NP NQ
  have HB : Hid (N ≤ 130 ∧ 0 ≤ off ∧ off ≤ 1) := ⟨hN, h0, h1⟩
  clear h0 h1
  go_enter Tryz.func205, Tryz.ntmps205
  go_wp2_with (first
    | (go_at_call 54; refine (O1 _).mono ?_; rintro e w1 ⟨a1, l1, c1, rfl, n1, b1⟩; have R1 := R0.grow b1)
    | fail)
  have KS := Blk.new w1 #[.bool false, .slice none 0 0, .slice a1 l1 c1] 57
  have al3 := (Below.refl w1.heap.size w1).alloc (Nat.le_refl _) (.cells #[.bool false, .slice none 0 0, .slice a1 l1 c1] 57)
  have S2 : Sm (w1.alloc (.cells #[.bool false, .slice none 0 0, .slice a1 l1 c1] 57)) w1.heap.size none 0 0 a1 l1 c1 (wn am p q 0) (q ^ (0 - 1)) := ⟨KS, ⟨[], Rd.nil _, Or.inl rfl, rfl⟩, by rw [show q ^ (0 - 1) = 1 by simp]; exact n1.grow al3⟩
  have R2 := R1.grow al3
  have lS : w.heap.size + 1 < w1.heap.size := R1.rb.lt
  generalize w1.alloc (.cells #[.bool false, .slice none 0 0, .slice a1 l1 c1] 57) = W2 at *
  generalize w1.heap.size = S at *
  have HS : Hid (S ≠ g ∧ w.heap.size + 1 < S) := ⟨by omega, lS⟩
  clear KS al3 R0 R1 n1 b1 O1 lS lg
  go_loopw [13] (fun t wr => ∃ (i : Nat) (a : Option Addr) (l c : Nat) (a' : Option Addr) (l' c' : Nat), i ≤ N ∧ t = .int .i64 (i : Int) ∧ Sm wr S a l c a' l' c' (wn am p q i) (q ^ (i - 1)) ∧ Rs w wr g N off am P1 M1 C1 P2 M2 C2 p q) (fun t _ => ((N : Int) - RowKit.intOf t).toNat)
  case atStart => exact ⟨0, none, 0, 0, a1, l1, c1, Nat.zero_le _, rfl, S2, R2⟩
  case round =>
    clear S2 R2
    obtain ⟨i, a, l, c, a', l', c', hi, rfl, SS, RR⟩ := hrel
    by_cases lt : i < N
    · obtain ⟨cs, K, e, ni, fj⟩ := RR.py
      obtain ⟨y0, y1, b, k, d, b', k', d', y2, y3, nA⟩ := fj i lt
      have x0 := (K.at (i * 4)).trans y0
      have x1 := (K.at (i * 4 + 1)).trans y1
      have x2 := (K.at (i * 4 + 2)).trans y2
      have x3 := (K.at (i * 4 + 3)).trans y3
      have i1 : (0 : Int) ≤ (i : Int) := by omega
      have i2 : ((i : Int)).toNat = i := by omega
      have i3 : (i : Int) < (N : Int) := by omega
      have z9 : IntKind.i64.wrap ((i : Int) + 1) = (i : Int) + 1 := wrapIc _ (by omega) (by omega)
      obtain ⟨T1, hT1⟩ : ∃ T, 1 - off + (i : Int) = T := ⟨_, rfl⟩
      rw [hT1] at x0
      have bV := (Below.refl wr.heap.size wr).alloc (Nat.le_refl _) (.cells #[.int .i64 T1, .bool false, .slice b k d, .slice b' k' d'] 195)
      have KV := Blk.new wr #[.int .i64 T1, .bool false, .slice b k d, .slice b' k' d'] 195
      have VS := SS.1.lt
      have NS : Hid (wr.heap.size ≠ S) := by show _ ≠ _; omega
      have HJ : Hid (i + 1 ≤ N) := lt
      have PZ := fun x a l c a' l' c' => PS x i a l c a' l' c' lt
      have MU := fun x a l c a' l' c' => MU3 x i a l c a' l' c' lt
      have PYS := RR.py
      replace SS := SS.grow bV
      replace RR := RR.grow bV
      replace nA := nA.grow bV
      obtain ⟨V, hV⟩ : ∃ V, wr.alloc (.cells #[.int .i64 T1, .bool false, .slice b k d, .slice b' k' d'] 195) = V := ⟨_, rfl⟩
      rw [hV] at SS RR nA bV KV
      obtain ⟨n7, h7⟩ : ∃ n7, wr.heap.size = n7 := ⟨_, rfl⟩
      rw [h7] at KV
      have g0 := KV.at 0
      simp at g0
      clear VS
      have N7 : Hid (n7 ≠ S) := by rw [← h7]; exact NS.out
      clear NS
      have hVr : Hid (wr.alloc (.cells #[.int .i64 T1, .bool false, .slice b k d, .slice b' k' d'] 195) = V ∧ wr.heap.size = n7) := ⟨hV, h7⟩
      clear hV h7
      have QT : Hid (∀ j : Nat, j + 1 = i → ∃ T0, V.cell? ⟨g, j * 4, none⟩ = some (.int .i64 T0) ∧ IntKind.i64.wrap (T1 - T0) = 1) := fun j hj => by
        obtain ⟨cs, K, e, ni, fj⟩ := RR.py
        obtain ⟨y0, _⟩ := fj j (by omega)
        exact ⟨_, (K.at (j * 4)).trans y0, by rw [show T1 - (1 - off + (j : Int)) = 1 by omega]; decide⟩
      clear K e ni fj y0 y1 y2 y3 hi hT1 PS MU3 lt PYS
      go_upto_if 19 with fail
      rw [hVr.out.1, hVr.out.2]
      go_cut [] (fun wc => ∃ (a : Option Addr) (l c : Nat) (a' : Option Addr) (l' c' : Nat), Sm wc S a l c a' l' c' (wn am p q i * p) (q ^ i) ∧ Rs w wc g N off am P1 M1 C1 P2 M2 C2 p q ∧ Blk wc n7 #[.int .i64 T1, .bool false, .slice b k d, .slice b' k' d'] 195 ∧ Nn wc b k d (am (i + 1)))
      case first =>
        by_cases z : i = 0
        · subst z
          clear PW1 PW2 MU1 MU2 QT
          rw [show wn am p q 0 = wn am p q 0 * p by simp [wn], show q ^ (0 - 1) = q ^ 0 from rfl] at SS
          go_wp2_with fail
          go_meet
          case rel => exact ⟨_, _, _, _, _, _, SS, RR, KV, nA⟩
        · have MA := fun x a l c a' l' c' => MU1 x i a l c a' l' c' HJ.out
          obtain ⟨j, hj⟩ : ∃ j, j + 1 = i := ⟨i - 1, by omega⟩
          have MB := fun x a l c a' l' c' => MU2 x j a l c a' l' c' (by have := HJ.out; omega)
          rw [hj] at MB
          rw [show i - 1 = j by omega] at SS
          obtain ⟨T0, x9, z8⟩ := QT.out j hj
          have hd : decide (0 < i) = true := decide_eq_true (by omega)
          have z7 : IntKind.i64.wrap ((i : Int) - 1) = (j : Int) := by rw [show (i : Int) - 1 = (j : Int) by omega]; exact wrapIc _ (by omega) (by omega)
          have j1 : (0 : Int) ≤ (j : Int) := by omega
          have j2 : ((j : Int)).toNat = j := by omega
          have j3 : (j : Int) < (N : Int) := by omega
          simp only [hd]
          clear MU1 MU2 QT hj z hN hd
          go_wp2_with fail
          go_quiet (fail)
          have dn : Below V.heap.size V (V.drewN nq) := by have h := Below.refl V.heap.size V; exact ⟨h.os, h.tape, h.output, h.size, h.block⟩
          replace SS := SS.grow dn
          replace RR := RR.grow dn
          replace KV := KV.below dn KV.lt
          replace nA := nA.grow dn
          clear dn g0 x9
          generalize V.drewN nq = V1 at *
          clear bV hVr
          clear V
          generalize V1 = V at *
          go_wp2_with fail
          go_cut [] (fun wc => ∃ (a : Option Addr) (l c : Nat) (a' : Option Addr) (l' c' : Nat), Sm wc S a l c a' l' c' (wn am p q i * p) (q ^ j) ∧ Rs w wc g N off am P1 M1 C1 P2 M2 C2 p q ∧ Blk wc n7 #[.int .i64 T1, .bool false, .slice b k d, .slice b' k' d'] 195 ∧ Nn wc b k d (am (i + 1)))
          case first =>
            have u1 := SS.1.at 1
            have u2 := RR.gb.at 1
            simp at u1 u2
            have dw := (Below.refl V.heap.size V).drew
            go_region_with (first
              | (go_at_call 53; (have z := m3); (refine (MA _ _ _ _ _ _ _ SS3.2.1 m3).mono ?_); (rintro e w4 ⟨a4, l4, c4, rfl, n4, b4⟩); (have SS4 := SS3.grow b4); (have RR4 := RR3.grow b4); (have KV4 := KV3.below b4 KV3.lt); (have nA4 := nA3.grow b4); (have t1 := SS4.1.at 1); (have f1 := SS4.1.free 1); (simp at t1))
              | (go_at_call 55; (refine (PW1 _ (RR.np.grow dw)).mono ?_); (rintro e w3 ⟨a3, l3, c3, rfl, m3, b3⟩); (have d3 := undrew b3); (have SS3 := SS.grow d3); (have RR3 := RR.grow d3); (have KV3 := KV.below d3 KV.lt); (have nA3 := nA.grow d3); (have s1 := SS3.1.at 1); (have s2 := RR3.gb.at 1); (simp at s1 s2))
              | fail)
            all_goals
              have SE := SS4.num n4
              have RE := RR4.set SS4 HS.out.1 HS.out.2 1 (.slice a4 l4 c4)
              have KE := bsk KV4 (Ne.symm N7.out) 1 (.slice a4 l4 c4)
              have nE := nA4.set (nA4.off64 SS4.1 (nb3 _ _ _ _ _ _ _)) 1 (.slice a4 l4 c4)
              clear SS RR KV nA SS3 RR3 KV3 nA3 SS4 RR4 KV4 nA4 u1 u2 s1 s2 t1 f1 dw d3 b3 b4 m3 n4
              generalize w4.setCell ⟨S, 1, none⟩ (.slice a4 l4 c4) = V8 at *
              go_wp2_with fail
              go_meet
              case rel => exact ⟨_, _, _, _, _, _, SE, RE, KE, nE⟩
          case rest =>
            rename World => V8
            clear SS RR KV nA PW1 MA
            obtain ⟨a, l, c, a', l', c', SS, RR, KV, nA⟩ := hcut
            generalize V8 = V at *
            go_wp2_with fail
            have u1 := SS.1.at 2
            have u2 := RR.gb.at 2
            simp at u1 u2
            have dw := (Below.refl V.heap.size V).drew
            go_region_with (first
              | (go_at_call 53; (have z := m3); (refine (MB _ _ _ _ _ _ _ SS3.2.2 m3).mono ?_); (rintro e w4 ⟨a4, l4, c4, rfl, n4, b4⟩); (have SS4 := SS3.grow b4); (have RR4 := RR3.grow b4); (have KV4 := KV3.below b4 KV3.lt); (have nA4 := nA3.grow b4); (have t1 := SS4.1.at 2); (have f1 := SS4.1.free 2); (simp at t1))
              | (go_at_call 55; (refine (PW2 _ (RR.nq.grow dw)).mono ?_); (rintro e w3 ⟨a3, l3, c3, rfl, m3, b3⟩); (have d3 := undrew b3); (have SS3 := SS.grow d3); (have RR3 := RR.grow d3); (have KV3 := KV.below d3 KV.lt); (have nA3 := nA.grow d3); (have s1 := SS3.1.at 2); (have s2 := RR3.gb.at 2); (simp at s1 s2))
              | fail)
            all_goals
              have SE := SS4.den n4
              have RE := RR4.set SS4 HS.out.1 HS.out.2 2 (.slice a4 l4 c4)
              have KE := bsk KV4 (Ne.symm N7.out) 2 (.slice a4 l4 c4)
              have nE := nA4.set (nA4.off64 SS4.1 (nb3 _ _ _ _ _ _ _)) 2 (.slice a4 l4 c4)
              clear SS RR KV nA SS3 RR3 KV3 nA3 SS4 RR4 KV4 nA4 u1 u2 s1 s2 t1 f1 dw d3 b3 b4 m3 n4
              generalize w4.setCell ⟨S, 2, none⟩ (.slice a4 l4 c4) = V9 at *
              go_wp2_with fail
              go_meet
              case rel => exact ⟨_, _, _, _, _, _, SE, RE, KE, nE⟩
      case rest =>
        rename World => V2
        clear SS RR KV nA g0 bV hVr QT PW1 PW2 MU1 MU2 hN
        obtain ⟨ga, gl, gc, ha, hl, hd, SS, RR, KV, nA⟩ := hcut
        clear V
        generalize V2 = V at *
        go_wp2_with fail
        refine Code.wp_mono (Q := fun ex a x => ex = .normal ∧ (fun a x => ∃ t45 t46 t47 t48 t49 t50 t51 t52 t53 t54 t55 t56 t57 t58 t59 t60 t61 t62 t63, a = ⟨#[.slice (some ⟨g, 0, none⟩) N N, .agg #[.bool false, .slice P1 M1 C1, .slice P2 M2 C2], undef, .pointer (some ⟨w.heap.size, 0, none⟩), .pointer (some ⟨w.heap.size + 1, 0, none⟩), .pointer (some ⟨S, 0, none⟩), .int .i64 (i : Int), .pointer (some ⟨n7, 0, none⟩), u8, .agg #[.slice a1 l1 c1], .agg #[.bool false, .slice none 0 0, .slice a1 l1 c1], .slice (some ⟨g, 0, none⟩) N N, .int .i64 (N : Int), .int .i64 (i : Int), u14, u15, u16, u17, u18, u19, u20, u21, u22, u23, u24, u25, u26, u27, u28, u29, u30, u31, u32, u33, u34, u35, u36, u37, u38, u39, u40, u41, u42, u43, u44, t45, t46, t47, t48, t49, t50, t51, t52, t53, t54, t55, t56, t57, t58, t59, t60, t61, t62, t63, u64, undef], []⟩ ∧ (∃ p9 m9 q9 x0, Below V.heap.size V x0 ∧ Nn x0 p9 m9 q9 (wn am p q (i + 1)) ∧ x = (x0.setCell ⟨S, 0, none⟩ (.bool false)).setCell ⟨S, 1, none⟩ (.slice p9 m9 q9))) a x) ?_ ?_
        rotate_left
        · refine wp_region_held (S := fun _ => True) (by kernel_rfl) (any_inv (fun listed a x => ∃ (y0 y1 y2 y3 y4 y5 y6 y7 y8 y9 y10 y11 y12 y13 y14 y15 y16 : Bool) (t46 t47 t48 t49 t50 t51 t52 t53 t54 t55 t56 t57 t58 t59 t45 t60 t61 : Value) (z62 z63 : Value), a = ⟨#[.slice (some ⟨g, 0, none⟩) N N, .agg #[.bool false, .slice P1 M1 C1, .slice P2 M2 C2], undef, .pointer (some ⟨w.heap.size, 0, none⟩), .pointer (some ⟨w.heap.size + 1, 0, none⟩), .pointer (some ⟨S, 0, none⟩), .int .i64 (i : Int), .pointer (some ⟨n7, 0, none⟩), u8, .agg #[.slice a1 l1 c1], .agg #[.bool false, .slice none 0 0, .slice a1 l1 c1], .slice (some ⟨g, 0, none⟩) N N, .int .i64 (N : Int), .int .i64 (i : Int), u14, u15, u16, u17, u18, u19, u20, u21, u22, u23, u24, u25, u26, u27, u28, u29, u30, u31, u32, u33, u34, u35, u36, u37, u38, u39, u40, u41, u42, u43, u44, t45, t46, t47, t48, t49, t50, t51, t52, t53, t54, t55, t56, t57, t58, t59, t60, t61, z62, z63, u64, undef], []⟩ ∧ ((listed = #[y0, y1, y2, y3, y4, y5, y6, y7, y8, y9, y10, y11, y12, y13, y14, y15, y16, false, false, false, false] ∧ WR9 V x (.pointer (some ⟨S, 0, none⟩)) (.bool false) (.pointer (some ⟨S, 1, none⟩)) (.agg #[.slice ga gl gc]) (.pointer (some ⟨n7, 1, none⟩)) (.pointer (some ⟨n7, 1, none⟩)) (.bool false) (.pointer (some ⟨n7, 1, none⟩)) (.pointer (some ⟨n7, 2, none⟩)) (.agg #[.slice b k d]) (.pointer (some ⟨S, 2, none⟩)) (.agg #[.slice ha hl hd]) (.bool false) (am (i + 1) * q ^ i) (wn am p q (i + 1)) (wn am p q (i + 1)) y0 y1 y2 y3 y4 y5 y6 y7 y8 y9 y10 y11 y12 y13 y14 y15 y16 t46 t47 t48 t49 t50 t51 t52 t53 t54 t55 t56 t57 t58 t59 t45 t60 t61 ∧ z62 = u62 ∧ z63 = u63) ∨ (listed = #[true, true, true, true, true, true, true, true, true, true, true, true, true, true, true, true, y16, true, false, false, false] ∧ (y16 = true → t61 = ext1 t45) ∧ ∃ p9 m9 q9, t45 = .tuple #[.bool false, .agg #[.slice p9 m9 q9]] ∧ t60 = .bool false ∧ z62 = .pointer (some ⟨S, 0, none⟩) ∧ z63 = u63 ∧ Below V.heap.size V x ∧ Nn x p9 m9 q9 (wn am p q (i + 1))) ∨ (listed = #[true, true, true, true, true, true, true, true, true, true, true, true, true, true, true, true, y16, true, true, false, false] ∧ (y16 = true → t61 = ext1 t45) ∧ (∃ p9 m9 q9 x0, t45 = .tuple #[.bool false, .agg #[.slice p9 m9 q9]] ∧ z63 = u63 ∧ Below V.heap.size V x0 ∧ Nn x0 p9 m9 q9 (wn am p q (i + 1)) ∧ x = x0.setCell ⟨S, 0, none⟩ (.bool false))) ∨ (listed = #[true, true, true, true, true, true, true, true, true, true, true, true, true, true, true, true, true, true, true, true, false] ∧ ∃ p9 m9 q9 x0, t61 = .agg #[.slice p9 m9 q9] ∧ z63 = .pointer (some ⟨S, 1, none⟩) ∧ Below V.heap.size V x0 ∧ Nn x0 p9 m9 q9 (wn am p q (i + 1)) ∧ x = x0.setCell ⟨S, 0, none⟩ (.bool false)) ∨ (listed = #[true, true, true, true, true, true, true, true, true, true, true, true, true, true, true, true, true, true, true, true, true] ∧ ∃ p9 m9 q9 x0, Below V.heap.size V x0 ∧ Nn x0 p9 m9 q9 (wn am p q (i + 1)) ∧ x = (x0.setCell ⟨S, 0, none⟩ (.bool false)).setCell ⟨S, 1, none⟩ (.slice p9 m9 q9)))) ?_ ?_ _ _ _ _ (by decide) ?_)
          · rintro listed a x i ⟨y0, y1, y2, y3, y4, y5, y6, y7, y8, y9, y10, y11, y12, y13, y14, y15, y16, t46, t47, t48, t49, t50, t51, t52, t53, t54, t55, t56, t57, t58, t59, t45, t60, t61, z62, z63, rfl, h⟩ hi
            have hr : i < 21 := List.mem_range.1 (List.mem_filter.1 hi).1
            have hc := (List.mem_filter.1 hi).2
            rcases h with ⟨rfl, h⟩ | ⟨rfl, h⟩ | ⟨rfl, h⟩ | ⟨rfl, h⟩ | ⟨rfl, h⟩
            · rcases (show i = 0 ∨ i = 1 ∨ i = 2 ∨ i = 3 ∨ i = 4 ∨ i = 5 ∨ i = 6 ∨ i = 7 ∨ i = 8 ∨ i = 9 ∨ i = 10 ∨ i = 11 ∨ i = 12 ∨ i = 13 ∨ i = 14 ∨ i = 15 ∨ i = 16 ∨ i = 17 ∨ i = 18 ∨ i = 19 ∨ i = 20 by omega) with rfl | rfl | rfl | rfl | rfl | rfl | rfl | rfl | rfl | rfl | rfl | rfl | rfl | rfl | rfl | rfl | rfl | rfl | rfl | rfl | rfl
              · obtain ⟨h, rfl, rfl⟩ := h
                clear hc hi
                refine wpOp_go rfl rfl (fun K hK => ?_)
                go_wp2_with fail
                exact hK.out _ _ ⟨true,_,_,_,_,_,_,_,_,_,_,_,_,_,_,_,_,.pointer (some ⟨S, 0, none⟩),_,_,_,_,_,_,_,_,_,_,_,_,_,_,_,_,_,_,rfl,Or.inl ⟨rfl, ⟨{ h with o0 := fun _ => rfl }, rfl, rfl⟩⟩⟩
              · obtain ⟨h, rfl, rfl⟩ := h
                have e0 : y0 = true := by revert hc; cases y0 <;> simp [Region.binds]
                have r0 := h.o0 e0; subst r0
                clear hc hi
                have kd := (SS.1.below h.bel SS.1.lt).at 0
                simp at kd
                refine wpOp_go rfl rfl (fun K hK => ?_)
                go_wp2_with fail
                exact hK.out _ _ ⟨_,true,_,_,_,_,_,_,_,_,_,_,_,_,_,_,_,_,.bool false,_,_,_,_,_,_,_,_,_,_,_,_,_,_,_,_,_,rfl,Or.inl ⟨rfl, ⟨{ h with o1 := fun _ => rfl }, rfl, rfl⟩⟩⟩
              · obtain ⟨h, rfl, rfl⟩ := h
                clear hc hi
                refine wpOp_go rfl rfl (fun K hK => ?_)
                go_wp2_with fail
                exact hK.out _ _ ⟨_,_,true,_,_,_,_,_,_,_,_,_,_,_,_,_,_,_,_,.pointer (some ⟨S, 1, none⟩),_,_,_,_,_,_,_,_,_,_,_,_,_,_,_,_,rfl,Or.inl ⟨rfl, ⟨{ h with o2 := fun _ => rfl }, rfl, rfl⟩⟩⟩
              · obtain ⟨h, rfl, rfl⟩ := h
                have e2 : y2 = true := by revert hc; cases y2 <;> simp [Region.binds]
                have r2 := h.o2 e2; subst r2
                clear hc hi
                have kd := (SS.1.below h.bel SS.1.lt).at 1
                simp at kd
                refine wpOp_go rfl rfl (fun K hK => ?_)
                go_wp2_with fail
                exact hK.out _ _ ⟨_,_,_,true,_,_,_,_,_,_,_,_,_,_,_,_,_,_,_,_,.agg #[.slice ga gl gc],_,_,_,_,_,_,_,_,_,_,_,_,_,_,_,rfl,Or.inl ⟨rfl, ⟨{ h with o3 := fun _ => rfl }, rfl, rfl⟩⟩⟩
              · obtain ⟨h, rfl, rfl⟩ := h
                clear hc hi
                refine wpOp_go rfl rfl (fun K hK => ?_)
                go_wp2_with fail
                exact hK.out _ _ ⟨_,_,_,_,true,_,_,_,_,_,_,_,_,_,_,_,_,_,_,_,_,.pointer (some ⟨n7, 1, none⟩),_,_,_,_,_,_,_,_,_,_,_,_,_,_,rfl,Or.inl ⟨rfl, ⟨{ h with o4 := fun _ => rfl }, rfl, rfl⟩⟩⟩
              · obtain ⟨h, rfl, rfl⟩ := h
                have e4 : y4 = true := by revert hc; cases y4 <;> simp [Region.binds]
                have r4 := h.o4 e4; subst r4
                clear hc hi
                refine wpOp_go rfl rfl (fun K hK => ?_)
                go_wp2_with fail
                exact hK.out _ _ ⟨_,_,_,_,_,true,_,_,_,_,_,_,_,_,_,_,_,_,_,_,_,_,.pointer (some ⟨n7, 1, none⟩),_,_,_,_,_,_,_,_,_,_,_,_,_,rfl,Or.inl ⟨rfl, ⟨{ h with o5 := fun _ => rfl }, rfl, rfl⟩⟩⟩
              · obtain ⟨h, rfl, rfl⟩ := h
                have e5 : y5 = true := by revert hc; cases y5 <;> simp [Region.binds]
                have r5 := h.o5 e5; subst r5
                clear hc hi
                have kd := (KV.below h.bel KV.lt).at 1
                simp at kd
                refine wpOp_go rfl rfl (fun K hK => ?_)
                go_wp2_with fail
                exact hK.out _ _ ⟨_,_,_,_,_,_,true,_,_,_,_,_,_,_,_,_,_,_,_,_,_,_,_,.bool false,_,_,_,_,_,_,_,_,_,_,_,_,rfl,Or.inl ⟨rfl, ⟨{ h with o6 := fun _ => rfl }, rfl, rfl⟩⟩⟩
              · obtain ⟨h, rfl, rfl⟩ := h
                clear hc hi
                refine wpOp_go rfl rfl (fun K hK => ?_)
                go_wp2_with fail
                exact hK.out _ _ ⟨_,_,_,_,_,_,_,true,_,_,_,_,_,_,_,_,_,_,_,_,_,_,_,_,.pointer (some ⟨n7, 1, none⟩),_,_,_,_,_,_,_,_,_,_,_,rfl,Or.inl ⟨rfl, ⟨{ h with o7 := fun _ => rfl }, rfl, rfl⟩⟩⟩
              · obtain ⟨h, rfl, rfl⟩ := h
                have e7 : y7 = true := by revert hc; cases y7 <;> simp [Region.binds]
                have r7 := h.o7 e7; subst r7
                clear hc hi
                refine wpOp_go rfl rfl (fun K hK => ?_)
                go_wp2_with fail
                exact hK.out _ _ ⟨_,_,_,_,_,_,_,_,true,_,_,_,_,_,_,_,_,_,_,_,_,_,_,_,_,.pointer (some ⟨n7, 2, none⟩),_,_,_,_,_,_,_,_,_,_,rfl,Or.inl ⟨rfl, ⟨{ h with o8 := fun _ => rfl }, rfl, rfl⟩⟩⟩
              · obtain ⟨h, rfl, rfl⟩ := h
                have e8 : y8 = true := by revert hc; cases y8 <;> simp [Region.binds]
                have r8 := h.o8 e8; subst r8
                clear hc hi
                have kd := (KV.below h.bel KV.lt).at 2
                simp at kd
                refine wpOp_go rfl rfl (fun K hK => ?_)
                go_wp2_with fail
                exact hK.out _ _ ⟨_,_,_,_,_,_,_,_,_,true,_,_,_,_,_,_,_,_,_,_,_,_,_,_,_,_,.agg #[.slice b k d],_,_,_,_,_,_,_,_,_,rfl,Or.inl ⟨rfl, ⟨{ h with o9 := fun _ => rfl }, rfl, rfl⟩⟩⟩
              · obtain ⟨h, rfl, rfl⟩ := h
                clear hc hi
                refine wpOp_go rfl rfl (fun K hK => ?_)
                go_wp2_with fail
                exact hK.out _ _ ⟨_,_,_,_,_,_,_,_,_,_,true,_,_,_,_,_,_,_,_,_,_,_,_,_,_,_,_,.pointer (some ⟨S, 2, none⟩),_,_,_,_,_,_,_,_,rfl,Or.inl ⟨rfl, ⟨{ h with o10 := fun _ => rfl }, rfl, rfl⟩⟩⟩
              · obtain ⟨h, rfl, rfl⟩ := h
                have e10 : y10 = true := by revert hc; cases y10 <;> simp [Region.binds]
                have r10 := h.o10 e10; subst r10
                clear hc hi
                have kd := (SS.1.below h.bel SS.1.lt).at 2
                simp at kd
                refine wpOp_go rfl rfl (fun K hK => ?_)
                go_wp2_with fail
                exact hK.out _ _ ⟨_,_,_,_,_,_,_,_,_,_,_,true,_,_,_,_,_,_,_,_,_,_,_,_,_,_,_,_,.agg #[.slice ha hl hd],_,_,_,_,_,_,_,rfl,Or.inl ⟨rfl, ⟨{ h with o11 := fun _ => rfl }, rfl, rfl⟩⟩⟩
              · obtain ⟨h, rfl, rfl⟩ := h
                have e9 : y9 = true := by revert hc; cases y9 <;> simp [Region.binds]
                have e11 : y11 = true := by revert hc; cases y11 <;> simp [Region.binds]
                have r9 := h.o9 e9; subst r9
                have r11 := h.o11 e11; subst r11
                clear hc hi
                refine wpOp_go rfl rfl (fun K hK => ?_)
                go_wp2_with (first | (go_at_call 53; go_must (refine (MU x _ _ _ _ _ _ (nA.grow h.bel) (SS.2.2.grow h.bel)).mono ?_; rintro e x2 ⟨a9, l9, c9, rfl, H9, bb⟩)) | fail)
                exact hK.out _ _ ⟨_,_,_,_,_,_,_,_,_,_,_,_,true,_,_,_,_,_,_,_,_,_,_,_,_,_,_,_,_,_,_,_,_,_,_,_,rfl,Or.inl ⟨rfl, ⟨{ h.grow bb with o12 := fun _ => ⟨a9, l9, c9, rfl, H9⟩ }, rfl, rfl⟩⟩⟩
              · obtain ⟨h, rfl, rfl⟩ := h
                have e1 : y1 = true := by revert hc; cases y1 <;> simp [Region.binds]
                have e3 : y3 = true := by revert hc; cases y3 <;> simp [Region.binds]
                have e6 : y6 = true := by revert hc; cases y6 <;> simp [Region.binds]
                have e12 : y12 = true := by revert hc; cases y12 <;> simp [Region.binds]
                have r1 := h.o1 e1; subst r1
                have r3 := h.o3 e3; subst r3
                have r6 := h.o6 e6; subst r6
                obtain ⟨a12, l12, c12, rfl, H12⟩ := h.o12 e12
                clear hc hi
                refine wpOp_go rfl rfl (fun K hK => ?_)
                go_wp2_with (first | (go_at_call 139; go_must (refine (PZ x _ _ _ a12 l12 c12 (SS.2.1.grow h.bel) H12).mono ?_; rintro e x2 ⟨a9, l9, c9, rfl, H9, bb⟩)) | fail)
                exact hK.out _ _ ⟨_,_,_,_,_,_,_,_,_,_,_,_,_,true,_,_,_,_,_,_,_,_,_,_,_,_,_,_,_,_,_,_,_,_,_,_,rfl,Or.inl ⟨rfl, ⟨{ h.grow bb with o13 := fun _ => ⟨a9, l9, c9, rfl, H9⟩ }, rfl, rfl⟩⟩⟩
              · have nj : y14 = false := by revert hc; cases y14 <;> simp [Region.binds]
                obtain ⟨h, rfl, rfl⟩ := h
                have e13 : y13 = true := by revert hc; cases y13 <;> simp [Region.binds]
                obtain ⟨a13, l13, c13, rfl, H13⟩ := h.o13 e13
                clear hc hi
                refine wpOp_go rfl rfl (fun K hK => ?_)
                go_wp2_with fail
                exact hK.out _ _ ⟨_,_,_,_,_,_,_,_,_,_,_,_,_,_,true,_,_,_,_,_,_,_,_,_,_,_,_,_,_,_,_,_,_,_,_,_,rfl,Or.inl ⟨rfl, ⟨{ h with o14 := fun _ => ⟨a13, l13, c13, rfl, H13⟩, o16 := fun u => (by have u2 := h.d16_14 u; rw [nj] at u2; cases u2), d16_14 := fun _ => rfl }, rfl, rfl⟩⟩⟩
              · obtain ⟨h, rfl, rfl⟩ := h
                have e14 : y14 = true := by revert hc; cases y14 <;> simp [Region.binds]
                obtain ⟨a14, l14, c14, rfl, H14⟩ := h.o14 e14
                clear hc hi
                refine wpOp_go rfl rfl (fun K hK => ?_)
                go_wp2_with fail
                exact hK.out _ _ ⟨_,_,_,_,_,_,_,_,_,_,_,_,_,_,_,true,_,_,_,_,_,_,_,_,_,_,_,_,_,_,_,_,.bool false,_,_,_,rfl,Or.inl ⟨rfl, ⟨{ h with o15 := fun _ => rfl }, rfl, rfl⟩⟩⟩
              · obtain ⟨h, rfl, rfl⟩ := h
                have e14 : y14 = true := by revert hc; cases y14 <;> simp [Region.binds]
                obtain ⟨a14, l14, c14, rfl, H14⟩ := h.o14 e14
                clear hc hi
                refine wpOp_go rfl rfl (fun K hK => ?_)
                go_wp2_with fail
                exact hK.out _ _ ⟨_,_,_,_,_,_,_,_,_,_,_,_,_,_,_,_,true,_,_,_,_,_,_,_,_,_,_,_,_,_,_,_,_,_,_,_,rfl,Or.inl ⟨rfl, ⟨{ h with o16 := fun _ => rfl, d16_14 := fun _ => e14 }, rfl, rfl⟩⟩⟩
              · obtain ⟨h, rfl, rfl⟩ := h
                have e0 : y0 = true := by revert hc; cases y0 <;> simp [Region.binds]
                have e1 : y1 = true := by revert hc; cases y1 <;> simp [Region.binds]
                have e2 : y2 = true := by revert hc; cases y2 <;> simp [Region.binds]
                have e3 : y3 = true := by revert hc; cases y3 <;> simp [Region.binds]
                have e4 : y4 = true := by revert hc; cases y4 <;> simp [Region.binds]
                have e5 : y5 = true := by revert hc; cases y5 <;> simp [Region.binds]
                have e6 : y6 = true := by revert hc; cases y6 <;> simp [Region.binds]
                have e7 : y7 = true := by revert hc; cases y7 <;> simp [Region.binds]
                have e8 : y8 = true := by revert hc; cases y8 <;> simp [Region.binds]
                have e9 : y9 = true := by revert hc; cases y9 <;> simp [Region.binds]
                have e10 : y10 = true := by revert hc; cases y10 <;> simp [Region.binds]
                have e11 : y11 = true := by revert hc; cases y11 <;> simp [Region.binds]
                have e12 : y12 = true := by revert hc; cases y12 <;> simp [Region.binds]
                have e13 : y13 = true := by revert hc; cases y13 <;> simp [Region.binds]
                have e14 : y14 = true := by revert hc; cases y14 <;> simp [Region.binds]
                have e15 : y15 = true := by revert hc; cases y15 <;> simp [Region.binds]
                obtain ⟨a14, l14, c14, rfl, H14⟩ := h.o14 e14
                have r15 := h.o15 e15; subst r15
                have hl16 := h.o16
                clear hc hi
                subst e0 e1 e2 e3 e4 e5 e6 e7 e8 e9 e10 e11 e12 e13 e14 e15
                have bl := h.bel
                clear h
                refine wpOp_go rfl rfl (fun K hK => ?_)
                go_wp2_with fail
                exact hK.out _ _ ⟨true,true,true,true,true,true,true,true,true,true,true,true,true,true,true,true,_,_,_,_,_,_,_,_,_,_,_,_,_,_,_,_,_,_,_,_,rfl,Or.inr (Or.inl ⟨rfl, hl16, a14, l14, c14, rfl, rfl, rfl, rfl, bl, H14⟩)⟩
              · simp [Region.binds] at hc
              · simp [Region.binds] at hc
              · simp [Region.binds] at hc
            · rcases (show i = 0 ∨ i = 1 ∨ i = 2 ∨ i = 3 ∨ i = 4 ∨ i = 5 ∨ i = 6 ∨ i = 7 ∨ i = 8 ∨ i = 9 ∨ i = 10 ∨ i = 11 ∨ i = 12 ∨ i = 13 ∨ i = 14 ∨ i = 15 ∨ i = 16 ∨ i = 17 ∨ i = 18 ∨ i = 19 ∨ i = 20 by omega) with rfl | rfl | rfl | rfl | rfl | rfl | rfl | rfl | rfl | rfl | rfl | rfl | rfl | rfl | rfl | rfl | rfl | rfl | rfl | rfl | rfl
              · simp at hc
              · simp at hc
              · simp at hc
              · simp at hc
              · simp at hc
              · simp at hc
              · simp at hc
              · simp at hc
              · simp at hc
              · simp at hc
              · simp at hc
              · simp at hc
              · simp at hc
              · simp at hc
              · simp at hc
              · simp at hc
              · clear hc hi
                obtain ⟨hl16, h⟩ := h
                obtain ⟨p9, m9, q9, rfl, rfl, rfl, rfl, bl, n9⟩ := h
                refine wpOp_go rfl rfl (fun K hK => ?_)
                go_wp2_with fail
                exact hK.out _ _ ⟨true,true,true,true,true,true,true,true,true,true,true,true,true,true,true,true,true,_,_,_,_,_,_,_,_,_,_,_,_,_,_,_,_,_,_,_,rfl,Or.inr (Or.inl ⟨rfl, fun _ => rfl, p9, m9, q9, rfl, rfl, rfl, rfl, bl, n9⟩)⟩
              · simp at hc
              · obtain ⟨hl16, h⟩ := h
                clear hc hi
                obtain ⟨p9, m9, q9, rfl, rfl, rfl, rfl, bl, n9⟩ := h
                have kS := SS.1.below bl SS.1.lt
                have k0 := kS.at 0
                have k9 := kS.free 0
                simp at k0
                refine wpOp_go rfl rfl (fun K hK => ?_)
                go_wp2_with fail
                exact hK.out _ _ ⟨true,true,true,true,true,true,true,true,true,true,true,true,true,true,true,true,_,_,_,_,_,_,_,_,_,_,_,_,_,_,_,_,_,_,_,_,rfl,Or.inr (Or.inr (Or.inl ⟨rfl, hl16, ⟨p9, m9, q9, x, rfl, rfl, bl, n9, rfl⟩⟩))⟩
              · simp [Region.binds] at hc
              · simp [Region.binds] at hc
            · rcases (show i = 0 ∨ i = 1 ∨ i = 2 ∨ i = 3 ∨ i = 4 ∨ i = 5 ∨ i = 6 ∨ i = 7 ∨ i = 8 ∨ i = 9 ∨ i = 10 ∨ i = 11 ∨ i = 12 ∨ i = 13 ∨ i = 14 ∨ i = 15 ∨ i = 16 ∨ i = 17 ∨ i = 18 ∨ i = 19 ∨ i = 20 by omega) with rfl | rfl | rfl | rfl | rfl | rfl | rfl | rfl | rfl | rfl | rfl | rfl | rfl | rfl | rfl | rfl | rfl | rfl | rfl | rfl | rfl
              · simp at hc
              · simp at hc
              · simp at hc
              · simp at hc
              · simp at hc
              · simp at hc
              · simp at hc
              · simp at hc
              · simp at hc
              · simp at hc
              · simp at hc
              · simp at hc
              · simp at hc
              · simp at hc
              · simp at hc
              · simp at hc
              · clear hc hi
                obtain ⟨hl16, h⟩ := h
                obtain ⟨p9, m9, q9, x0, rfl, rfl, bl, n9, rfl⟩ := h
                refine wpOp_go rfl rfl (fun K hK => ?_)
                go_wp2_with fail
                exact hK.out _ _ ⟨true,true,true,true,true,true,true,true,true,true,true,true,true,true,true,true,true,_,_,_,_,_,_,_,_,_,_,_,_,_,_,_,_,_,_,_,rfl,Or.inr (Or.inr (Or.inl ⟨rfl, fun _ => rfl, ⟨p9, m9, q9, x0, rfl, rfl, bl, n9, rfl⟩⟩))⟩
              · simp at hc
              · simp at hc
              · have e16 : y16 = true := by revert hc; cases y16 <;> simp [Region.binds]
                obtain ⟨hl16, h⟩ := h
                have r16 := hl16 e16
                clear hl16
                subst e16 r16
                clear hc hi
                obtain ⟨p9, m9, q9, x0, rfl, rfl, bl, n9, rfl⟩ := h
                refine wpOp_go rfl rfl (fun K hK => ?_)
                go_wp2_with fail
                exact hK.out _ _ ⟨true,true,true,true,true,true,true,true,true,true,true,true,true,true,true,true,true,_,_,_,_,_,_,_,_,_,_,_,_,_,_,_,_,_,_,_,rfl,Or.inr (Or.inr (Or.inr (Or.inl ⟨rfl, p9, m9, q9, x0, rfl, rfl, bl, n9, rfl⟩)))⟩
              · simp [Region.binds] at hc
            · rcases (show i = 0 ∨ i = 1 ∨ i = 2 ∨ i = 3 ∨ i = 4 ∨ i = 5 ∨ i = 6 ∨ i = 7 ∨ i = 8 ∨ i = 9 ∨ i = 10 ∨ i = 11 ∨ i = 12 ∨ i = 13 ∨ i = 14 ∨ i = 15 ∨ i = 16 ∨ i = 17 ∨ i = 18 ∨ i = 19 ∨ i = 20 by omega) with rfl | rfl | rfl | rfl | rfl | rfl | rfl | rfl | rfl | rfl | rfl | rfl | rfl | rfl | rfl | rfl | rfl | rfl | rfl | rfl | rfl
              · simp at hc
              · simp at hc
              · simp at hc
              · simp at hc
              · simp at hc
              · simp at hc
              · simp at hc
              · simp at hc
              · simp at hc
              · simp at hc
              · simp at hc
              · simp at hc
              · simp at hc
              · simp at hc
              · simp at hc
              · simp at hc
              · simp at hc
              · simp at hc
              · simp at hc
              · simp at hc
              · clear hc hi
                obtain ⟨p9, m9, q9, x0, rfl, rfl, bl, n9, rfl⟩ := h
                have kS := bput (SS.1.below bl SS.1.lt) 0 (.bool false)
                have k1 := kS.at 1
                have k9 := kS.free 1
                simp at k1
                refine wpOp_go rfl rfl (fun K hK => ?_)
                go_wp2_with fail
                exact hK.out _ _ ⟨true,true,true,true,true,true,true,true,true,true,true,true,true,true,true,true,true,_,_,_,_,_,_,_,_,_,_,_,_,_,_,_,_,_,_,_,rfl,Or.inr (Or.inr (Or.inr (Or.inr (⟨rfl, p9, m9, q9, x0, bl, n9, rfl⟩))))⟩
            · rcases (show i = 0 ∨ i = 1 ∨ i = 2 ∨ i = 3 ∨ i = 4 ∨ i = 5 ∨ i = 6 ∨ i = 7 ∨ i = 8 ∨ i = 9 ∨ i = 10 ∨ i = 11 ∨ i = 12 ∨ i = 13 ∨ i = 14 ∨ i = 15 ∨ i = 16 ∨ i = 17 ∨ i = 18 ∨ i = 19 ∨ i = 20 by omega) with rfl | rfl | rfl | rfl | rfl | rfl | rfl | rfl | rfl | rfl | rfl | rfl | rfl | rfl | rfl | rfl | rfl | rfl | rfl | rfl | rfl <;> simp at hc
          · rintro listed a x ⟨y0, y1, y2, y3, y4, y5, y6, y7, y8, y9, y10, y11, y12, y13, y14, y15, y16, t46, t47, t48, t49, t50, t51, t52, t53, t54, t55, t56, t57, t58, t59, t45, t60, t61, z62, z63, rfl, h⟩ hn
            have al := all_listed2 (by decide +kernel) hn
            rcases h with ⟨rfl, h⟩ | ⟨rfl, h⟩ | ⟨rfl, h⟩ | ⟨rfl, h⟩ | ⟨rfl, h⟩
            · have z := al 17 (by decide)
              simp at z
            · have z := al 18 (by decide)
              simp at z
            · have z := al 19 (by decide)
              simp at z
            · have z := al 20 (by decide)
              simp at z
            · obtain ⟨p9, m9, q9, x0, bl, n9, rfl⟩ := h
              refine ⟨rfl, ?_⟩
              exact ⟨_, _, _, _, _, _, _, _, _, _, _, _, _, _, _, _, _, _, _, rfl, p9, m9, q9, x0, bl, n9, rfl⟩
          · exact ⟨false, false, false, false, false, false, false, false, false, false, false, false, false, false, false, false, false, u46, u47, u48, u49, u50, u51, u52, u53, u54, u55, u56, u57, u58, u59, u45, u60, u61, u62, u63, rfl, Or.inl ⟨rfl, ⟨{ bel := (Below.refl _ _).drew, o0 := (by intro q; cases q), o1 := (by intro q; cases q), o2 := (by intro q; cases q), o3 := (by intro q; cases q), o4 := (by intro q; cases q), o5 := (by intro q; cases q), o6 := (by intro q; cases q), o7 := (by intro q; cases q), o8 := (by intro q; cases q), o9 := (by intro q; cases q), o10 := (by intro q; cases q), o11 := (by intro q; cases q), o12 := (by intro q; cases q), o13 := (by intro q; cases q), o14 := (by intro q; cases q), o15 := (by intro q; cases q), o16 := (by intro q; cases q), d16_14 := (by intro q; cases q) }, rfl, rfl⟩⟩⟩
        rintro _ av x ⟨rfl, t45, t46, t47, t48, t49, t50, t51, t52, t53, t54, t55, t56, t57, t58, t59, t60, t61, t62, t63, rfl, p9, m9, q9, x0, bl, n9, rfl⟩
        have S4 := SS.grow bl
        have SE := S4.sign.num (n9.set (n9.off64 S4.1 (nb3 _ _ _ _ _ _ _)) 0 (.bool false))
        have RE := ((RR.grow bl).set S4 HS.out.1 HS.out.2 0 (.bool false)).set S4.sign HS.out.1 HS.out.2 1 (.slice p9 m9 q9)
        clear SS RR KV nA PZ MU S4
        go_wp2_with fail
        go_roundw
        case rel => exact ⟨i + 1, _, _, _, _, _, _, HJ.out, by go_num, SE, RE⟩
        case measure => simp [RowKit.intOf]; have := HJ.out; omega
    · obtain rfl : i = N := by omega
      have F := bput3 RR.rb (.bool false) (.slice a l c) (.slice a' l' c')
      have x0 := SS.1.at 0
      have x1 := SS.1.at 1
      have x2 := SS.1.at 2
      have y0 := RR.rb.at 0
      have y1 := RR.rb.at 1
      have y2 := RR.rb.at 2
      have f0 := RR.rb.free 0
      have f1 := RR.rb.free 1
      have f2 := RR.rb.free 2
      simp at x0 x1 x2 y0 y1 y2
      clear MU1 MU2 MU3 PS PW1 PW2
      go_wp2_with fail
      have z0 := F.at 0
      have z1 := F.at 1
      have z2 := F.at 2
      simp at z0 z1 z2
      have o1 := SS.2.1.off64 RR.rb (nb3 _ _ _ _ _ _ _)
      have o2 := SS.2.2.off64 RR.rb (nb3 _ _ _ _ _ _ _)
      have n2 := ((SS.2.1.set o1 0 (.bool false)).set o1 1 (.slice a l c)).set o1 2 (.slice a' l' c')
      have n3 := ((SS.2.2.set o2 0 (.bool false)).set o2 1 (.slice a l c)).set o2 2 (.slice a' l' c')
      have BE := bset3 (n := w.heap.size + 1) (x := .bool false) (y := .slice a l c) (z := .slice a' l' c') RR.bel (by omega)
      generalize ((wr.setCell ⟨w.heap.size + 1, 0, none⟩ (.bool false)).setCell ⟨w.heap.size + 1, 1, none⟩ (.slice a l c)).setCell ⟨w.heap.size + 1, 2, none⟩ (.slice a' l' c') = WE at *
      exact bodyPost_ret (v := .agg #[.bool false, .slice a l c, .slice a' l' c']) (by simp [results, Tryz.results205, go_sem, z0, z1, z2]) rfl ⟨a, l, c, a', l', c', rfl, n2, n3, BE⟩
end Go.Proofs.YtmopfnhjooopkaaGreatDoor.Mo

namespace Go.Proofs.YtmopfnhjooopkaaGreatDoor.Mo
open Go.RowKit Tn Ip

end Go.Proofs.YtmopfnhjooopkaaGreatDoor.Mo

namespace Go.Proofs.YtmopfnhjooopkaaGreatDoor.Mo
open Go.RowKit Tn Ip

theorem pfput {w : World} {n : Nat} {v : Value} {r : Rat} {x y z : Value} {g : Bool} {a1 a2 : Option Addr} {n1 c1 n2 c2 : Nat} (h : PF w v r) (R : Rb w n (.bool g) (.slice a1 n1 c1) (.slice a2 n2 c2)) : PF (((w.setCell ⟨n, 0, none⟩ x).setCell ⟨n, 1, none⟩ y).setCell ⟨n, 2, none⟩ z) v r := by
  obtain ⟨a, l, c, a', l', c', e, h1, h2⟩ := h
  exact ⟨a, l, c, a', l', c', e, h1.putF R, h2.putF R⟩
end Go.Proofs.YtmopfnhjooopkaaGreatDoor.Mo
