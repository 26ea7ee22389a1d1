/- What the model of chapter 1 answers of the code point at a place. -/
import Derived.Test.YtljbcpkjhnbpeaaDoorLow
namespace Go.Proofs.YtljbcpkjhnbpeaaDoor
open Go.RowKit
namespace U
end U
end Go.Proofs.YtljbcpkjhnbpeaaDoor
