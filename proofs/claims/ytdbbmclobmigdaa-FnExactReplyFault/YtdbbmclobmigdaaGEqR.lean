/- Two answers that are one are found the same. -/
import Derived.Test.YtdbbmclobmigdaaGRA
namespace Go.Proofs.Ytdbbmclobmigdaa
open Go.RowKit
namespace U
end U
end Go.Proofs.Ytdbbmclobmigdaa
