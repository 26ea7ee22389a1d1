/- Phases that are asked for, by the program. -/
import Derived.Test.YtjhmfaibpnagcaaGreatGSt6
namespace Go.Proofs.YtjhmfaibpnagcaaGreat
open Go.RowKit
namespace U
end U
end Go.Proofs.YtjhmfaibpnagcaaGreat
