/- What the model of chapter 1 answers of the code point at a place. -/
import Derived.Test.YtgflamlfplpfdabLow
namespace Go.Proofs.Ytgflamlfplpfdab
open Go.RowKit
namespace U
end U
end Go.Proofs.Ytgflamlfplpfdab
