/- What the model of chapter 1 answers of the code point at a place. -/
import Derived.Test.YtljbcpkjhnbpeaaLow
namespace Go.Proofs.Ytljbcpkjhnbpeaa
open Go.RowKit
namespace U
end U
end Go.Proofs.Ytljbcpkjhnbpeaa
