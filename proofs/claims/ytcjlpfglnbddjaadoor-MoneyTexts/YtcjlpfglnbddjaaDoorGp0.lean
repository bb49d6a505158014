import Derived.Test.YtcjlpfglnbddjaaDoorLg2
import Derived.Test.YtcjlpfglnbddjaaDoorFs4
namespace Go.Proofs.YtcjlpfglnbddjaaDoor.L
open Go.RowKit Tl
end Go.Proofs.YtcjlpfglnbddjaaDoor.L
