/- Two answers that are one are found the same. -/
import Derived.Test.YtffoogkojncooaaGreatDoorIntR
namespace Go.Proofs.YtffoogkojncooaaGreatDoor
open Go.RowKit
namespace U
end U
end Go.Proofs.YtffoogkojncooaaGreatDoor
