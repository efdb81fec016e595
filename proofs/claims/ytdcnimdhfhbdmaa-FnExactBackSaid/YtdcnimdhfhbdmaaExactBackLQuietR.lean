/- (nothing of its own) -/
import Derived.Test.YtdcnimdhfhbdmaaExactBackG03
import Derived.Sort.BigQuietIn
import Derived.RangeFuncCalls
namespace Go.Proofs.Ytdcnimdhfhbdmaa
end Go.Proofs.Ytdcnimdhfhbdmaa
