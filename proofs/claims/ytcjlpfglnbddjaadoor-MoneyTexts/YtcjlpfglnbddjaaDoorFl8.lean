import Derived.Test.YtcjlpfglnbddjaaDoorFl7
import Derived.Deep.CutBlock
import Derived.Deep.DeepCutAuto
namespace Go.Proofs.YtcjlpfglnbddjaaDoor
open Go.RowKit Tn

end Go.Proofs.YtcjlpfglnbddjaaDoor
