import Derived.Test.YtcjlpfglnbddjaaDoorFl4
namespace Go.Proofs.YtcjlpfglnbddjaaDoor
open Go.RowKit Tn

end Go.Proofs.YtcjlpfglnbddjaaDoor
