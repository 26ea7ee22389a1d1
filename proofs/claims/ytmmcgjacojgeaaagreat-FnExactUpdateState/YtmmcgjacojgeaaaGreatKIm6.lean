/- Some keys copied, by the model. -/
import Derived.Test.YtmmcgjacojgeaaaGreatKIm2h
import Derived.Test.YtmmcgjacojgeaaaGreatKIm6M
namespace Go.Proofs.YtmmcgjacojgeaaaGreat
open Go.RowKit
namespace U
end U
end Go.Proofs.YtmmcgjacojgeaaaGreat
