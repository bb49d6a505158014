import Derived.Test.YtemfndmffpalfaaFl7
import Derived.Deep.CutBlock
import Derived.Deep.DeepCutAuto
namespace Go.Proofs.Ytemfndmffpalfaa
open Go.RowKit Tn

end Go.Proofs.Ytemfndmffpalfaa
