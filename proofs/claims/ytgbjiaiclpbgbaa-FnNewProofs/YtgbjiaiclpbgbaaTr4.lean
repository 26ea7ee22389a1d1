/- How many forks the new tree has, as the program counts them. -/
import Derived.Test.YtgbjiaiclpbgbaaTr1
namespace Go.Proofs.Ytgbjiaiclpbgbaa
open Go.RowKit
namespace U
end U
end Go.Proofs.Ytgbjiaiclpbgbaa
