/- What the model of chapter 1 answers of the code point at a place. -/
import Derived.Test.YtljbcpkjhnbpeaaGreatDoorLow
namespace Go.Proofs.YtljbcpkjhnbpeaaGreatDoor
open Go.RowKit
namespace U
end U
end Go.Proofs.YtljbcpkjhnbpeaaGreatDoor
