/- A record that a law is handed: how great it is, and the record that the functions are handed. -/
import Derived.Test.YtpelafkjnmcdgaaGreatRec1
namespace Go.Proofs.YtpelafkjnmcdgaaGreat
open Go.RowKit
namespace U
end U
end Go.Proofs.YtpelafkjnmcdgaaGreat
