/- How many forks the new tree has, as the program counts them. -/
import Derived.Test.YtljbcpkjhnbpeaaTr1
namespace Go.Proofs.Ytljbcpkjhnbpeaa
open Go.RowKit
namespace U
end U
end Go.Proofs.Ytljbcpkjhnbpeaa
