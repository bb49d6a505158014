import Derived.Test.YtemfndmffpalfaaFl2
namespace Go.Proofs.Ytemfndmffpalfaa
open Go.RowKit Tn

/-- The reference's size of floats. -/
abbrev szW : Value := .agg #[.int .i64 53, .int .i64 (-1074), .int .i64 971, .int .i64 52]
/-- The reference's size of small floats. -/
abbrev szS : Value := .agg #[.int .i64 24, .int .i64 (-149), .int .i64 104, .int .i64 23]
end Go.Proofs.Ytemfndmffpalfaa
