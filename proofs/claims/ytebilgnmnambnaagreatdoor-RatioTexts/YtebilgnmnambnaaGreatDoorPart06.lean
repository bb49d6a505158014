import Derived.Below
import Derived.Deep.RegionHeld3
import Derived.Test.YtebilgnmnambnaaGreatDoorPart02
import Derived.Laws.IdiomCopy
import Derived.Laws.CopyRow
import Derived.Test.YtebilgnmnambnaaGreatDoorProg
import Derived.Laws.Strings
import Derived.Laws.Concat
import Derived.WalkKit
import Derived.Test.YtebilgnmnambnaaGreatDoorPart01
import Derived.Laws.AppendOwn
import Derived.OwnWalk

namespace Go
theorem ready_false {md : Region.Mode} {ops : Array Oper} {listed : Array Bool} {i : Nat} (h : i ∈ Region.ready md ops listed) : listed.toList[i]? = some false := by
  unfold Region.ready at h
  have c := (List.mem_filter.1 h).2
  rw [Bool.and_eq_true] at c
  have d := c.1
  cases e : listed.toList[i]? with
  | none => rw [Array.getD_eq_getD_getElem?, ← Array.getElem?_toList, e] at d; simp at d
  | some b => rw [Array.getD_eq_getD_getElem?, ← Array.getElem?_toList, e] at d; simp at d; rw [d]
theorem count_set_true {l : List Bool} {i : Nat} (h : l[i]? = some false) : (l.set i true).count false + 1 = l.count false := by
  induction l generalizing i with
  | nil => simp at h
  | cons b l ih =>
    cases i with
    | zero => simp at h; subst h; simp
    | succ i =>
      simp at h
      have := ih h
      rw [List.set_cons_succ, List.count_cons, List.count_cons]
      omega
theorem wpOp_go {P : Program} {ops : Array Oper} {Q : Exit → Act → World → Prop} {i : Nat} {o : Oper} {K : Act → World → Prop} {a : Act} {w : World} (ho : ops[i]? = some o) (hw : Region.wanted o (yielded ops a.tmps) = true) (h : ∀ K' : Act → World → Prop, RowKit.Hid (∀ a w, K a w → K' a w) → Oper.wp P o a w K' Q) : wpOp P ops Q i K a w := by
  refine wpOp_step ho (fun K' hK => ?_)
  rw [if_pos hw]
  exact h K' hK
theorem any_inv {P : Program} {md : Region.Mode} {ops : Array Oper} {Q : Exit → Act → World → Prop} (Inv : Array Bool → Act → World → Prop)
    (hs : ∀ listed a w i, Inv listed a w → i ∈ Region.ready md ops listed → wpOp P ops Q i (fun a' w' => Inv (listed.setIfInBounds i true) a' w') a w)
    (hd : ∀ listed a w, Inv listed a w → Region.ready md ops listed = [] → Q .normal a w) :
    ∀ (fuel : Nat) (listed : Array Bool) (a : Act) (w : World), listed.toList.count false ≤ fuel → Inv listed a w → wpAnyH P md ops Q (fun _ => True) fuel listed a w := by
  intro fuel
  induction fuel with
  | zero =>
    intro listed a w hc hi
    have e : Region.ready md ops listed = [] := by
      cases c : Region.ready md ops listed with
      | nil => rfl
      | cons i rs =>
        have r := ready_false (md := md) (ops := ops) (listed := listed) (i := i) (by rw [c]; simp)
        have := count_set_true r
        omega
    exact ⟨e, hd _ _ _ hi e⟩
  | succ fuel ih =>
    intro listed a w hc hi
    refine ⟨fun e => hd _ _ _ hi e, fun i hr => wpOp_mono (fun a' w' h => ⟨trivial, ih _ _ _ ?_ h⟩) (hs _ _ _ _ hi hr)⟩
    have := count_set_true (ready_false hr)
    rw [Array.toList_setIfInBounds]
    omega
theorem all_listed {md : Region.Mode} {ops : Array Oper} {listed : Array Bool} (hdep : (List.range ops.size).all (fun i => ((ops[i]?).map (fun o => o.after.all fun e => decide (e.on < i))).getD false) = true) (h : Region.ready md ops listed = []) : ∀ i, i < ops.size → listed.getD i true = true := by
  intro i
  induction i using Nat.strongRecOn with
  | ind i ih =>
    intro hi
    cases c : listed.getD i true with
    | true => rfl
    | false =>
      exfalso
      have ho : ops[i]? = some ops[i] := Array.getElem?_eq_getElem hi
      have d := List.all_eq_true.1 hdep i (List.mem_range.2 hi)
      rw [ho] at d
      simp only [Option.map_some, Option.getD_some] at d
      have m : i ∈ Region.ready md ops listed := by
        unfold Region.ready
        refine List.mem_filter.2 ⟨List.mem_range.2 hi, ?_⟩
        rw [c, ho]
        simp only [Bool.not_false, Bool.true_and, Option.map_some, Option.getD_some]
        rw [Array.all_eq_true] at d ⊢
        intro k hk
        have e := d k hk
        rw [decide_eq_true_iff] at e
        have t := ih _ e (by omega)
        have t2 : listed.getD (ops[i].after[k]).on false = true := by
          rw [Array.getD_eq_getD_getElem?] at t ⊢
          cases x : listed[(ops[i].after[k]).on]? with
          | none =>
            exfalso
            have z : listed.getD i true = false := c
            rw [Array.getD_eq_getD_getElem?] at z
            have : listed[i]? = none := by
              rw [Array.getElem?_eq_none_iff] at x ⊢
              omega
            rw [this] at z
            simp at z
          | some b => rw [x] at t; simpa using t
        rw [t2]; simp
      rw [h] at m
      cases m
end Go

namespace Go.Proofs.YtebilgnmnambnaaGreatDoor
open Go.RowKit Tn
theorem run_copy_words {w : World} (ty : TypeId) (X Y : List Int) (g off dCap : Nat) (sp : Option Addr) (sLen sCap dLen : Nat) (eX : dLen = X.length) (eY : sLen = Y.length)
    (hle : Y.length ≤ X.length) (hX : Cells w g off X) (hO : Own w g) (hY : 0 < Y.length → ∃ b o, sp = some ⟨b, o, none⟩ ∧ Cells w b o Y) :
    ∃ w', (Builtin.copy_ #[63, 63] ty #[.slice (some ⟨g, off, none⟩) dLen dCap, .slice sp sLen sCap]).run Tryz.prog w = .ok (goInt Y.length) w' ∧ Cells w' g off (Y ++ X.drop Y.length) ∧ Wr g off X.length w w' := by
  subst eX eY
  by_cases h0 : Y.length = 0
  · obtain rfl : Y = [] := List.eq_nil_of_length_eq_zero h0
    exact ⟨w, run_copy_none w _ _ ty 87 _ _ _ _ _ _ Tryz.underlying63 Tryz.sizeU (by simp), by simpa using hX, Wr.refl _ _ _ _⟩
  · obtain ⟨b2, o2, rfl, hcY⟩ := hY (by omega)
    obtain ⟨cur, t, hh⟩ := hO
    have hsz : off + X.length ≤ cur.size := by
      have h1 := hX (X.length - 1) (by omega)
      simp only [World.cell?, hh, Option.isSome_none, Bool.false_eq_true, if_false] at h1
      have := (Array.getElem?_eq_some_iff.1 h1).1
      omega
    have hY' : (Y.map (Value.int .u64)).length = Y.length := List.length_map ..
    have hrun := run_copy_row (P := Tryz.prog) w 63 63 ty 87 g off X.length dCap ⟨b2, o2, none⟩ Y.length sCap cur t (Y.map (Value.int .u64)) Tryz.underlying63 Tryz.sizeU hh (by rw [List.length_map]; exact (Nat.min_eq_left hle).symm) (by
        intro j v hj
        rw [List.getElem?_map] at hj
        by_cases hlt : j < Y.length
        · rw [List.getElem?_eq_getElem hlt] at hj
          have := hcY j hlt
          simp only [nth, List.getD_eq_getElem?_getD, List.getElem?_eq_getElem hlt, Option.getD_some] at this
          simp only [Option.map_some, Option.some.injEq] at hj
          subst hj
          rw [show (⟨b2, o2, none⟩ : Addr).add j = ⟨b2, o2 + j, none⟩ from by simp [Addr.add]]
          exact this
        · rw [List.getElem?_eq_none (Nat.le_of_not_lt hlt)] at hj; simp at hj
      ) (by rw [List.length_map]; omega) (by intro v hv; obtain ⟨x, _, rfl⟩ := List.mem_map.1 hv; rfl)
    rw [hY', List.append_assoc] at hrun
    refine ⟨_, hrun, ?_, ?_⟩
    all_goals clear hrun
    · intro i hi
      rw [List.length_append, List.length_drop] at hi
      rw [cell_setRow w g cur _ t _ hh]
      have hoff : (cur.toList.take off).length = off := by rw [List.length_take]; simp; omega
      rw [List.getElem?_toArray, List.getElem?_append_right (by omega), hoff, Nat.add_sub_cancel_left]
      by_cases hlt : i < Y.length
      · rw [List.getElem?_append_left (by rw [hY']; exact hlt), List.getElem?_map, List.getElem?_eq_getElem hlt]
        simp [nth, List.getD_eq_getElem?_getD, List.getElem?_append_left hlt, List.getElem?_eq_getElem hlt]
      · rw [List.getElem?_append_right (by omega), hY', List.getElem?_drop]
        have h1 := hX i (by omega)
        simp only [World.cell?, hh, Option.isSome_none, Bool.false_eq_true, if_false] at h1
        have e : off + Y.length + (i - Y.length) = off + i := by omega
        rw [e, Array.getElem?_toList, h1]
        have e2 : nth (Y ++ X.drop Y.length) i = nth X i := by
          unfold nth
          rw [List.getD_eq_getElem?_getD, List.getElem?_append_right (by omega), List.getElem?_drop, List.getD_eq_getElem?_getD]
          congr 2; omega
        rw [e2]
    · refine ⟨rfl, rfl, rfl, by simp [World.setRow], fun k _ hk => setRow_other w g k _ hk, ?_, ?_, ?_⟩
      · intro i hi
        rw [cell_setRow w g cur _ t _ hh]
        have hoff : (cur.toList.take off).length = off := by rw [List.length_take]; simp; omega
        simp only [World.cell?, hh, Option.isSome_none, Bool.false_eq_true, if_false]
        rw [List.getElem?_toArray]
        rcases hi with hi | hi
        · rw [List.getElem?_append_left (by omega), List.getElem?_take_of_lt (by omega), Array.getElem?_toList]
        · rw [List.getElem?_append_right (by omega), hoff, List.getElem?_append_right (by omega), hY', List.getElem?_drop, Array.getElem?_toList]
          congr 1; omega
      · intro i
        simp [World.frozen?, setRow_at w g cur _ t _ hh, hh]
      · intro c t' f e
        rw [hh] at e
        simp only [Option.some.injEq, Obj.cells.injEq] at e
        obtain ⟨rfl, rfl, rfl⟩ := e
        refine ⟨_, setRow_at w g cur _ t _ hh, ?_⟩
        simp; omega
end Go.Proofs.YtebilgnmnambnaaGreatDoor

namespace Go
theorem all_listed2 {md : Region.Mode} {ops : Array Oper} {listed : Array Bool} (hdep : (List.range ops.size).all (fun i => ((ops[i]?).map (fun o => o.after.all fun e => !Region.binds md e || decide (e.on < i))).getD false) = true) (h : Region.ready md ops listed = []) : ∀ i, i < ops.size → listed.getD i true = true := by
  intro i
  induction i using Nat.strongRecOn with
  | ind i ih =>
    intro hi
    cases c : listed.getD i true with
    | true => rfl
    | false =>
      exfalso
      have ho : ops[i]? = some ops[i] := Array.getElem?_eq_getElem hi
      have d := List.all_eq_true.1 hdep i (List.mem_range.2 hi)
      rw [ho] at d
      simp only [Option.map_some, Option.getD_some] at d
      have m : i ∈ Region.ready md ops listed := by
        unfold Region.ready
        refine List.mem_filter.2 ⟨List.mem_range.2 hi, ?_⟩
        rw [c, ho]
        simp only [Bool.not_false, Bool.true_and, Option.map_some, Option.getD_some]
        rw [Array.all_eq_true] at d ⊢
        intro k hk
        have e := d k hk
        cases bb : Region.binds md (ops[i].after[k]) with
        | false => simp
        | true =>
          rw [bb] at e
          simp only [Bool.not_true, Bool.false_or, decide_eq_true_iff] at e
          have t := ih _ e (by omega)
          have t2 : listed.getD (ops[i].after[k]).on false = true := by
            rw [Array.getD_eq_getD_getElem?] at t ⊢
            cases x : listed[(ops[i].after[k]).on]? with
            | none =>
              exfalso
              have z : listed.getD i true = false := c
              rw [Array.getD_eq_getD_getElem?] at z
              have : listed[i]? = none := by
                rw [Array.getElem?_eq_none_iff] at x ⊢
                omega
              rw [this] at z
              simp at z
            | some b => rw [x] at t; simpa using t
          rw [t2]; simp
      rw [h] at m
      cases m
end Go

namespace Go.Proofs.YtebilgnmnambnaaGreatDoor.Mo
open Go.RowKit
def sB (l : List UInt8) : ByteArray := ⟨l.toArray⟩
theorem sB_size (l : List UInt8) : (sB l).size = l.length := by simp [sB, ByteArray.size]
theorem sB_add (a b : List UInt8) : sB a ++ sB b = sB (a ++ b) := by
  apply ByteArray.ext
  simp [sB]
def sg (g : Bool) (l : List UInt8) : List UInt8 := (if g then [45] else []) ++ l
set_option maxRecDepth 100000 in
theorem WSign_any (g : Bool) (l : List UInt8) (w : World) (hl : l.length ≤ 8388608) :
    Calls Tryz.prog 69 #[.bool g, .string (sB l)] w fun e w' => e = .returned (.string (sB (sg g l))) ∧ w' = w := by
  have h1 : Hid ((⟨#[45]⟩ : ByteArray) ++ sB l = sB ([45] ++ l)) := sB_add [45] l
  have h2 := run_string_add_sum (P := Tryz.prog) w ⟨#[45]⟩ (sB l) (by rw [sB_size]; simp [ByteArray.size]; omega)
  rw [h1.out] at h2
  cases g
  · go_enter Tryz.func69, Tryz.ntmps69
    go_wp2
    go_ret
    exact ⟨rfl, rfl⟩
  · go_enter Tryz.func69, Tryz.ntmps69
    go_wp2
    go_ret
    exact ⟨rfl, rfl⟩
end Go.Proofs.YtebilgnmnambnaaGreatDoor.Mo

namespace Go.Proofs.YtebilgnmnambnaaGreatDoor.Wt
open Go.RowKit Tn
def gd (G i : Nat) : Int := 48 + ((G / 10 ^ (18 - i) % 10 : Nat) : Int)
def Cb (w : World) (b o n : Nat) (f : Nat → Int) : Prop := ∀ i, i < n → w.cell? ⟨b, o + i, none⟩ = some (.int .u8 (f i))
theorem wrapI (x : Int) (h0 : -9223372036854775808 ≤ x) (h1 : x < 9223372036854775808) : IntKind.i64.wrap x = x := by
  simp [IntKind.wrap, IntKind.bits, IntKind.signed]; omega
theorem wrapU (x : Int) (h0 : 0 ≤ x) (h1 : x < 18446744073709551616) : IntKind.u64.wrap x = x := by
  simp [IntKind.wrap, IntKind.bits, IntKind.signed]; omega
theorem wrapB (x : Int) (h0 : 0 ≤ x) (h1 : x < 256) : IntKind.u8.wrap x = x := by
  simp [IntKind.wrap, IntKind.bits, IntKind.signed]; omega
set_option maxRecDepth 100000 in
set_option maxHeartbeats 1600000 in
theorem putGroup_any (b o n c G : Nat) (w : World) (hG : G < 18446744073709551616) (hn : 19 ≤ n) (hnm : n ≤ 1099511627776) (g : Nat → Int) (hc : Cb w b o 19 g) (hF : Free w b o 19) :
    Calls Tryz.prog 204 #[.slice (some ⟨b, o, none⟩) n c, .int .u64 G] w fun e w' => e = .returned (.tuple #[]) ∧ Cb w' b o 19 (gd G) ∧ Wr b o 19 w w' := by
  go_enter Tryz.func204, Tryz.ntmps204
  go_wp2_with fail
  go_loopw [1, 5] (fun t i wr => ∃ k : Nat, k ≤ 19 ∧ i = .int .i64 k ∧ t = .int .u64 ((G / 10 ^ k : Nat) : Int) ∧ Hid (∀ j, j < 19 → 19 - k ≤ j → wr.cell? ⟨b, o + j, none⟩ = some (.int .u8 (gd G j))) ∧ Hid (∀ j, j < 19 → ∃ v, wr.cell? ⟨b, o + j, none⟩ = some (.int .u8 v)) ∧ Wr b o 19 w wr) (fun _ i _ => 19 - (intOf i).toNat)
  case atStart => exact ⟨0, by omega, rfl, by simp, fun j h1 h2 => absurd h1 (by omega), fun j hj => ⟨_, hc j hj⟩, Wr.refl _ _ _ _⟩
  case round =>
    obtain ⟨k, hk, rfl, rfl, hd, he, hw⟩ := hrel
    by_cases hlt : k < 19
    · obtain ⟨Q, hQ⟩ : ∃ Q : Nat, G / 10 ^ k = Q := ⟨_, rfl⟩
      have hQ2 : G / 10 ^ (k + 1) = Q / 10 := by rw [Nat.pow_succ, ← Nat.div_div_eq_div_mul, hQ]
      have hQb : Q < 18446744073709551616 := by rw [← hQ]; exact Nat.lt_of_le_of_lt (Nat.div_le_self _ _) hG
      obtain ⟨D, hD⟩ : ∃ D : Nat, Q % 10 = D := ⟨_, rfl⟩
      have hDb : D < 10 := by omega
      obtain ⟨J, hJ⟩ : ∃ J : Nat, 18 - k = J := ⟨_, rfl⟩
      have eg : gd G J = 48 + (D : Int) := by unfold gd; rw [show 18 - J = k by omega, hQ, hD]
      obtain ⟨v, hv⟩ := he.out J (by omega)
      have fr : wr.frozen? ⟨b, o + J, none⟩ = false := (hw.froz _).trans (hF J (by omega))
      have x1 : IntKind.i64.wrap (18 - (k : Int)) = (J : Int) := by rw [show (18 : Int) - (k : Int) = (J : Int) by omega]; exact wrapI _ (by omega) (by omega)
      have x2 : Int.tmod (Q : Int) 10 = (D : Int) := by rw [← hD]; rfl
      have x3 : IntKind.u64.wrap (D : Int) = (D : Int) := wrapU _ (by omega) (by omega)
      have x4 : IntKind.u64.wrap (48 + (D : Int)) = 48 + (D : Int) := wrapU _ (by omega) (by omega)
      have x5 : IntKind.u8.wrap (48 + (D : Int)) = 48 + (D : Int) := wrapB _ (by omega) (by omega)
      have x6 : Int.tdiv (Q : Int) 10 = ((Q / 10 : Nat) : Int) := rfl
      have x7 : IntKind.u64.wrap ((Q / 10 : Nat) : Int) = ((Q / 10 : Nat) : Int) := wrapU _ (by omega) (by omega)
      have y1 : (0 : Int) ≤ (J : Int) := by omega
      have y2 : ((J : Int)).toNat = J := by omega
      have y3 : (J : Int) < (n : Int) := by omega
      have bl := hw.size
      have N1 : Hid (∀ j, j < 19 → 19 - (k + 1) ≤ j → (wr.setCell ⟨b, o + J, none⟩ (.int .u8 (48 + (D : Int)))).cell? ⟨b, o + j, none⟩ = some (.int .u8 (gd G j))) := fun j h1 h2 => by
        by_cases e : j = J
        · subst e
          rw [eg]
          exact World.cell?_setCell_same _ _ _ hv
        · rw [World.cell?_setCell_other _ _ _ _ (by simp)]
          exact hd.out j h1 (by omega)
      have N2 : Hid (∀ j, j < 19 → ∃ v, (wr.setCell ⟨b, o + J, none⟩ (.int .u8 (48 + (D : Int)))).cell? ⟨b, o + j, none⟩ = some (.int .u8 v)) := fun j h1 => by
        by_cases e : j = J
        · subst e
          exact ⟨_, World.cell?_setCell_same _ _ _ hv⟩
        · rw [World.cell?_setCell_other _ _ _ _ (by simp)]
          exact he.out j h1
      have N3 := hw.setCell (o + J) (by omega) (.int .u8 (48 + (D : Int)))
      rw [hQ]
      clear hQ hD hJ eg
      go_wp2
      go_roundw
      case rel => exact ⟨k + 1, by omega, by go_num, by rw [hQ2]; simp, N1, N2, N3⟩
      case measure => simp [intOf]; omega
    · go_wp2
      go_end0
      exact ⟨rfl, fun j hj => hd.out j hj (by omega), hw⟩
end Go.Proofs.YtebilgnmnambnaaGreatDoor.Wt

namespace Go.Proofs.YtebilgnmnambnaaGreatDoor.Wt
open Go.RowKit Tn
theorem infoB : ∃ i, Tryz.prog.info? 5 = some i ∧ i.zero = some (.int .u8 0) ∧ i.size = 1 ∧ i.bytes = 1 := by
  have h : ((Tryz.prog.info? 5).map fun i => (i.zero, i.size, i.bytes)) = some (some (.int .u8 0), 1, 1) := by kernel_rfl
  obtain ⟨i, h1, h2⟩ := Option.map_eq_some_iff.1 h
  simp only [Prod.mk.injEq] at h2
  exact ⟨i, h1, h2.1, h2.2.1, h2.2.2⟩
theorem zc (m : Nat) : Builtin.zeroCells (Value.int .u8 0).cells m = (List.replicate m (Value.int .u8 0)).toArray := by
  apply Array.ext'
  simp only [Builtin.zeroCells, Value.cells]
  apply List.ext_getElem
  · simp
  · intro i h1 h2
    simp [Nat.mod_one]
def U8 (w : World) (v : Value) : Prop := ∀ g, v.ownBlock = some g → ∀ j u, w.cell? ⟨g, j, none⟩ = some u → ∃ x, u = .int .u8 x
theorem u8_of {w : World} {g : Nat} {c : Array Value} {t : TypeId} (h : w.heap[g]? = some (.cells c t (0, 0))) (hu : ∀ u ∈ c.toList, ∃ x, u = Value.int .u8 x) {n cap : Nat} : U8 w (.slice (some ⟨g, 0, none⟩) n cap) := by
  intro g' e j u hj
  simp [Value.ownBlock] at e
  subst e
  simp only [World.cell?, h, Option.isSome_none, Bool.false_eq_true, if_false] at hj
  exact hu u (by rw [← Array.getElem?_toList] at hj; exact List.mem_of_getElem? hj)
theorem run_zeros {w : World} (ty base : Nat) (v : Value) (n m : Nat) (xs : List Value) (hown : w.ownsRow base 5 1 v n xs) (hm : 0 < m) (hb : n + m ≤ 1099511627776) (hbase : base ≤ w.heap.size) (hU : U8 w v) (hxs : ∀ u ∈ xs, ∃ x, u = Value.int .u8 x) :
    ∃ v' w', (Builtin.append_ #[126, 3] ty #[v, .int .i64 m]).run Tryz.prog w = .ok v' w' ∧ w'.ownsRow base 5 1 v' (n + m) (xs ++ List.replicate m (.int .u8 0)) ∧ w.grownBy w' v.ownBlock ∧ (v'.ownBlock = v.ownBlock ∨ v'.ownBlock = some w.heap.size) ∧ U8 w' v' := by
  obtain ⟨i, hi, hz0, hz1, hz2⟩ := infoB
  have ht : Tryz.prog.underlying 126 = some (.slice 5) := by kernel_rfl
  have hti : Tryz.prog.underlying 3 = some (.int .i64) := by kernel_rfl
  have hw : IntKind.i64.wrap (m : Int) = (m : Int) := wrapI _ (by omega) (by omega)
  have hlen : (xs ++ List.replicate m (Value.int .u8 0)).length = (n + m) * 1 := by rw [List.length_append, hown.1, List.length_replicate]; omega
  have h0 : ¬ (m : Int) < 0 := by omega
  have h48 : ¬ (281474976710656 < (m : Int)) := by omega
  have hm0 : m ≠ 0 := by omega
  have h63 : n + m ≤ maxLen := by unfold maxLen; omega
  have rz : ∀ (k : Nat), ∀ u ∈ List.replicate k (Value.int .u8 0), ∃ x, u = Value.int .u8 x := fun k u hu => ⟨0, (List.mem_replicate.1 hu).2⟩
  have nu : ∀ {k : Nat}, ∀ u ∈ (xs.toArray ++ (List.replicate m (Value.int .u8 0)).toArray ++ (List.replicate k (Value.int .u8 0)).toArray).toList, ∃ x, u = Value.int .u8 x := fun {k} u hu => by
    simp only [Array.toList_append, List.mem_append] at hu
    rcases hu with (hu | hu) | hu
    · exact hxs u hu
    · exact rz _ u hu
    · exact rz _ u hu
  have grown : ∀ (old : Nat), ∀ (row : Option Nat),
      (w.drew.alloc (.cells (xs.toArray ++ (List.replicate m (Value.int .u8 0)).toArray ++ (List.replicate (grownCap w (n + m) old 5 - (n + m)) (Value.int .u8 0)).toArray) 5)).ownsRow base 5 1
        (.slice (some ⟨w.heap.size, 0, none⟩) (n + m) (grownCap w (n + m) old 5)) (n + m) (xs ++ List.replicate m (Value.int .u8 0)) ∧
      w.grownBy (w.drew.alloc (.cells (xs.toArray ++ (List.replicate m (Value.int .u8 0)).toArray ++ (List.replicate (grownCap w (n + m) old 5 - (n + m)) (Value.int .u8 0)).toArray) 5)) row := by
    intro old row
    have hge := grownCap_ge w (n + m) old 5
    have hcm : grownCap w (n + m) old 5 ≤ maxLen := grownCap_le_maxLen w (n + m) old 5 h63
    refine ⟨⟨hlen, .inr ⟨w.heap.size, _, _, rfl, hbase, heap_alloc_new w.drew _, hge, hcm, ?_, ?_⟩⟩, ⟨rfl, rfl, rfl, by simp, fun k hk _ => heap_alloc_old w.drew _ hk⟩⟩
    · simp only [Array.size_append, List.size_toArray, List.length_replicate, hown.1]
      omega
    · simp only [Array.toList_append, List.append_assoc]
      rw [← List.append_assoc, ← hlen]
      exact List.take_left
  rcases hown.2 with ⟨rfl, rfl⟩ | ⟨g, cap, cur, rfl, hbg, hg, hnc, hcm, hcs, htake⟩
  · have hx : xs = [] := List.eq_nil_of_length_eq_zero (by simpa using hown.1)
    subst hx
    have hgr := grown 0 (Value.ownBlock (.slice none 0 0))
    refine ⟨_, _, ?_, hgr.1, hgr.2, Or.inr rfl, u8_of (heap_alloc_new w.drew _) nu⟩
    have hn2 : ¬ (281474976710656 < Builtin.nextslicecap m 0) := by rw [nextslicecap_zero hm]; omega
    have h63' : ¬ (9223372036854775807 < (m : Int)) := by omega
    simp [Builtin.append_, run_underlying ht, run_underlying hti, sizeOf, typeInfo, zeroValue, hi, hz0, hz1, hz2, hw, h0, h48, hm0, hn2, h63', Question.forced, run_firstCells_none, newRow, grownCap, zc, asInt, asIntOf]
  · by_cases hroom : n + m ≤ cap
    · have hst := run_storeCells_at Tryz.prog g n 5 (List.replicate m (.int .u8 0)) 0 cur w hg (by rw [List.length_replicate, hcs]; omega) (by intro u hu; obtain ⟨_, rfl⟩ := List.mem_replicate.1 hu; rfl)
      simp only [Nat.add_zero] at hst
      refine ⟨.slice (some ⟨g, 0, none⟩) (n + m) cap, w.setRow g (List.take n cur.toList ++ List.replicate m (Value.int .u8 0) ++ List.drop (n + (List.replicate m (Value.int .u8 0)).length) cur.toList).toArray, ?_, ⟨hlen, .inr ⟨g, cap, _, rfl, hbg, setRow_heap w g cur _ 5 _ hg, hroom, hcm, ?_, ?_⟩⟩, ⟨rfl, rfl, rfl, by simp, fun k _ hk => setRow_other w g k _ (fun e => hk (by simp [Value.ownBlock, e]))⟩, Or.inl rfl, u8_of (setRow_heap w g cur _ 5 _ hg) ?_⟩
      · simp [Builtin.append_, run_underlying ht, run_underlying hti, sizeOf, typeInfo, zeroValue, hi, hz0, hz1, hz2, hw, h0, h48, hm0, hroom, zc, asInt, asIntOf, Addr.add_lit, hst]
      · simp only [List.size_toArray, List.length_append, List.length_take, List.length_drop, Array.length_toList, List.length_replicate]
        omega
      · rw [Nat.mul_one] at htake
        rw [htake, ← hlen]
        exact List.take_left
      · intro u hu
        have cu : ∀ u ∈ cur.toList, ∃ x, u = Value.int .u8 x := fun u hu => by
          obtain ⟨j, hj⟩ := List.getElem?_of_mem hu
          refine hU g rfl j u ?_
          simp only [World.cell?, hg, Option.isSome_none, Bool.false_eq_true, if_false]
          rw [← Array.getElem?_toList]
          exact hj
        simp only [List.mem_append] at hu
        rcases hu with (hu | hu) | hu
        · exact cu u (List.mem_of_mem_take hu)
        · exact rz _ u hu
        · exact cu u (List.mem_of_mem_drop hu)
    · have holds : ∀ j u, xs[j]? = some u → w.drew.cell? ((⟨g, 0, none⟩ : Addr).add j) = some u := fun j u h => by simpa using hown.cells (g := g) rfl j u h
      have hfo := run_firstCells_some (P := Tryz.prog) w.drew 1 n ⟨g, 0, none⟩ n cap xs hown.1 holds
      have hgr := grown cap (Value.ownBlock (.slice (some ⟨g, 0, none⟩) n cap))
      refine ⟨_, _, ?_, hgr.1, hgr.2, Or.inr rfl, u8_of (heap_alloc_new w.drew _) nu⟩
      have hn : ¬ (n + m ≤ cap) := hroom
      have hn2 : ¬ (281474976710656 < Builtin.nextslicecap (n + m) cap) := by have := growslice_fits (need := n + m) (old := cap) (bytes := 1) (by omega) (by omega); omega
      have h63' : ¬ (9223372036854775807 < ((n : Int) + (m : Int))) := by omega
      simp [Builtin.append_, run_underlying ht, run_underlying hti, sizeOf, typeInfo, zeroValue, hi, hz0, hz1, hz2, hw, h0, h48, hm0, hn, hn2, h63', Question.forced, hfo, newRow, grownCap, zc, asInt, asIntOf]
theorem wp_zeros {w : World} {o : Oper} {a : Act} {K : Act → World → Prop} {Q : Exit → Act → World → Prop} (s x : Operand)
    (ho : o.op = .call { callee := .builtin .append, args := #[s, x], argTypes := #[126, 3] })
    (base : Nat) (v : Value) (n m : Nat) (xs : List Value) (hs : a.eval s = v) (hx : a.eval x = .int .i64 m) (hown : w.ownsRow base 5 1 v n xs) (hm : 0 < m) (hb : n + m ≤ 1099511627776) (hbase : base ≤ w.heap.size) (hU : U8 w v) (hxs : ∀ u ∈ xs, ∃ x, u = Value.int .u8 x)
    (h : ∀ v' w', w'.ownsRow base 5 1 v' (n + m) (xs ++ List.replicate m (.int .u8 0)) → w.grownBy w' v.ownBlock → (v'.ownBlock = v.ownBlock ∨ v'.ownBlock = some w.heap.size) → U8 w' v' → K (a.put o.dst v') w') : o.wp Tryz.prog a w K Q := by
  obtain ⟨v', w', hr, h1, h2, h3, h4⟩ := run_zeros (w := w) o.type base v n m xs hown hm hb hbase hU hxs
  unfold Oper.wp execOp
  simp only [ho, resolve, invoke, builtin, Sem.run_bind, Sem.run_pure, Result.andThen_ok, List.map_toArray, List.map_cons, List.map_nil, hs, hx, hr]
  exact h v' w' h1 h2 h3 h4
theorem wpList_zeros {w : World} {ops : Array Oper} {rest : List Oper} {o : Oper} {a : Act} {Q : Exit → Act → World → Prop} (hgd : o.guard = none) (s x : Operand)
    (ho : o.op = .call { callee := .builtin .append, args := #[s, x], argTypes := #[126, 3] })
    (base : Nat) (v : Value) (n m : Nat) (xs : List Value) (hs : a.eval s = v) (hx : a.eval x = .int .i64 m) (hown : w.ownsRow base 5 1 v n xs) (hm : 0 < m) (hb : n + m ≤ 1099511627776) (hbase : base ≤ w.heap.size) (hU : U8 w v) (hxs : ∀ u ∈ xs, ∃ x, u = Value.int .u8 x)
    (h : ∀ v' w', w'.ownsRow base 5 1 v' (n + m) (xs ++ List.replicate m (.int .u8 0)) → w.grownBy w' v.ownBlock → (v'.ownBlock = v.ownBlock ∨ v'.ownBlock = some w.heap.size) → U8 w' v' → wpList Tryz.prog ops Q rest (a.put o.dst v') w') : wpList Tryz.prog ops Q (o :: rest) a w :=
  wpList_plain hgd fun _ hK => wp_zeros s x ho base v n m xs hs hx hown hm hb hbase hU hxs fun v' w' h1 h2 h3 h4 => hK _ _ (h v' w' h1 h2 h3 h4)
end Go.Proofs.YtebilgnmnambnaaGreatDoor.Wt
