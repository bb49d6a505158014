import Derived.Test.YtemfndmffpalfaaFl4
namespace Go.Proofs.Ytemfndmffpalfaa
open Go.RowKit Tn

end Go.Proofs.Ytemfndmffpalfaa
