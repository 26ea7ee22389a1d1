/- What the model of chapter 1 answers of the code point at a place. -/
import Derived.Test.YtgbjiaiclpbgbaaLow
namespace Go.Proofs.Ytgbjiaiclpbgbaa
open Go.RowKit
namespace U
end U
end Go.Proofs.Ytgbjiaiclpbgbaa
