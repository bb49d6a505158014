import Derived.Test.YtcjlpfglnbddjaaDoorFl9
import Derived.Laws.Externs
namespace Go.Proofs.YtcjlpfglnbddjaaDoor
open Go.RowKit Tn

end Go.Proofs.YtcjlpfglnbddjaaDoor
