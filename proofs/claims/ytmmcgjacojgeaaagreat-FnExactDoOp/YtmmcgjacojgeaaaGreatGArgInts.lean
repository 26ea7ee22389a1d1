/- An argument that is a slice of numbers, opened: it reads as a list. -/
import Derived.Test.YtmmcgjacojgeaaaGreatGBC
import Derived.Test.YtmmcgjacojgeaaaGreatGBA
namespace Go.Proofs.YtmmcgjacojgeaaaGreat
namespace U
open Go.ChangeShapes Go.WideShapes Go.ChangeAt Go.RowKit
end U
end Go.Proofs.YtmmcgjacojgeaaaGreat
