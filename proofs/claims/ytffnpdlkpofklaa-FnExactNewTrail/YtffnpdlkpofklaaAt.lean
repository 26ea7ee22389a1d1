/- What the model of chapter 1 answers of the code point at a place. -/
import Derived.Test.YtffnpdlkpofklaaLow
namespace Go.Proofs.Ytffnpdlkpofklaa
open Go.RowKit
namespace U
end U
end Go.Proofs.Ytffnpdlkpofklaa
