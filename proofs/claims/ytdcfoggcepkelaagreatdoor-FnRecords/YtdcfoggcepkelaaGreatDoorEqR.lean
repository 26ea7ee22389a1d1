/- Two answers that are one are found the same. -/
import Derived.Test.YtdcfoggcepkelaaGreatDoorIntR
namespace Go.Proofs.YtdcfoggcepkelaaGreatDoor
open Go.RowKit
namespace U
end U
end Go.Proofs.YtdcfoggcepkelaaGreatDoor
