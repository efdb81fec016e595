/- A region that draws its order, in a round of a loop over a function: walked once, in the order of the text, over worlds that only grow. -/
import Derived.Test.YtdcnimdhfhbdmaaExactBackG03
import Derived.Sort.BigQuietIn
import Derived.RangeFuncCalls
namespace Go.Proofs.Ytdcnimdhfhbdmaa
open Go.RowKit
section
variable {F : Fence} {n : Nat} {P : Program} {ops : Array Oper} {C : World → Prop}
end Go.Proofs.Ytdcnimdhfhbdmaa
