/- A region that draws its order, in a round of a loop over a function: walked once, in the order of the text, over worlds that only grow. -/
import Derived.Test.YtnccenbkpocjgaaGreatExactHearG04
import Derived.Sort.BigQuietIn
import Derived.RangeFuncCalls
namespace Go.Proofs.YtnccenbkpocjgaaGreat
end Go.Proofs.YtnccenbkpocjgaaGreat
