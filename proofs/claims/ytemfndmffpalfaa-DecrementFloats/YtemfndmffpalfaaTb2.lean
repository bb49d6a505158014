import Derived.Test.YtemfndmffpalfaaTb1
namespace Go.Proofs.Ytemfndmffpalfaa.Ta
open Go.RowKit Go.Proofs.Ytemfndmffpalfaa.L Dc
open Go.Proofs.Ytemfndmffpalfaa.Mo (Ri wrapI empty_iff)

end Go.Proofs.Ytemfndmffpalfaa.Ta
