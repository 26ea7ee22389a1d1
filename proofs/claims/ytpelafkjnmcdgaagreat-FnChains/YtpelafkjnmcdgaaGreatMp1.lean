/- Records by their keys: the map that the program makes of a directory. -/
import Derived.Test.YtpelafkjnmcdgaaGreatMpM
import Derived.Test.YtpelafkjnmcdgaaGreatHeldBy
import Derived.Deep.RegionHeld3
namespace Go.Proofs.YtpelafkjnmcdgaaGreat
open Go.RowKit Go.Maps
namespace U
end U
end Go.Proofs.YtpelafkjnmcdgaaGreat
