/- The model's bus cycle in the state of erasing. -/
import Derived.Test.YtophgbjbinaekaaDoorFlashWrite2
namespace Go.Proofs.YtophgbjbinaekaaDoor
open Go.RowKit

end Go.Proofs.YtophgbjbinaekaaDoor
