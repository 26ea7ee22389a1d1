/- Phases that are asked for, by the program. -/
import Derived.Test.YtmmcgjacojgeaaaGreatKSt6
namespace Go.Proofs.YtmmcgjacojgeaaaGreat
open Go.RowKit
namespace U
end U
end Go.Proofs.YtmmcgjacojgeaaaGreat
