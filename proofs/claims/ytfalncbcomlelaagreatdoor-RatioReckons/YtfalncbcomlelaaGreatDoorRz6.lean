import Derived.Test.YtfalncbcomlelaaGreatDoorRz5
namespace Go.Proofs.YtfalncbcomlelaaGreatDoor.Mo
open Go.RowKit

/-- The law. -/
theorem reckons_law (n d m k : ByteArray) (w : World) (hn : n.size ≤ 9223372036854775807) (hd : d.size ≤ 9223372036854775807) (hm : m.size ≤ 9223372036854775807) (hk : k.size ≤ 9223372036854775807) (G : Gw w) :
    Calls Tryz.prog 3 #[.agg #[.string n, .string d], .agg #[.string m, .string k]] w fun e w' => e = .returned (.bool true) ∧ Below w.heap.size w w' := by
  obtain ⟨s9, t9, e9, N1, N2⟩ := both_Neg n d m k w hn hd hm hk G
  obtain ⟨s0, t0, e0, P0, Q0⟩ := both_Add n d m k w hn hd hm hk G
  obtain ⟨s1, t1, e1, P1, Q1⟩ := both_Sub n d m k w hn hd hm hk G
  obtain ⟨s2, t2, e2, P2, Q2⟩ := both_Mul n d m k w hn hd hm hk G
  obtain ⟨s3, t3, e3, P3, Q3⟩ := both_Div n d m k w hn hd hm hk G
  obtain ⟨z1, y1, C1, C2⟩ := both_Cmp n d m k w hn hd hm hk
  obtain ⟨z2, y2, S1, S2⟩ := both_Sign n d w hn hd
  exact reckons_walk n d m k (goodE n d) z1 y1 z2 y2 s9 t9 s0 t0 s1 t1 s2 t2 s3 t3 e9 e0 e1 e2 e3 w N1 N2 (fun x _ => Check_any n d x hn hd) (fun x _ => Good_any n d x hn hd) P0 Q0 P1 Q1 P2 Q2 P3 Q3 C1 C2 S1 S2
end Go.Proofs.YtfalncbcomlelaaGreatDoor.Mo
