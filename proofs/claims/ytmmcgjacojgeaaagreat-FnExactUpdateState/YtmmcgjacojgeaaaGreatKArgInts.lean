/- An argument that is a slice of numbers, opened: it reads as a list. -/
import Derived.Test.YtmmcgjacojgeaaaGreatKBC
import Derived.Test.YtmmcgjacojgeaaaGreatKBA
namespace Go.Proofs.YtmmcgjacojgeaaaGreat
namespace U
open Go.ChangeShapes Go.WideShapes Go.ChangeAt Go.RowKit
end U
end Go.Proofs.YtmmcgjacojgeaaaGreat
