import Derived.Test.YtemfndmffpalfaaFl6
namespace Go.Proofs.Ytemfndmffpalfaa
open Go.RowKit Tn

/-- It can be told. -/
def okWTold (p : Int × Bool × Int × Int) : Decidable (OkW p) := by unfold OkW; exact inferInstance
/-- What is put together of parts: the bits, and 0; or 0, and ErrParts. -/
def joiW (p : Int × Bool × Int × Int) : Int × Int := @ite (Int × Int) (OkW p) (okWTold p) (pckW p, 0) (0, 21)
/-- It can be told. -/
def okSTold (p : Int × Bool × Int × Int) : Decidable (OkS p) := by unfold OkS; exact inferInstance
/-- What is put together of parts: the bits, and 0; or 0, and ErrParts. -/
def joiS (p : Int × Bool × Int × Int) : Int × Int := @ite (Int × Int) (OkS p) (okSTold p) (pckS p, 0) (0, 21)
end Go.Proofs.Ytemfndmffpalfaa
