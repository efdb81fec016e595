/- PIr, PIs -/
import Derived.Test.YtnccenbkpocjgaaGreatExactPartNewG15
import Derived.Test.YtnccenbkpocjgaaGreatExactPartNewG14
import Derived.Test.YtnccenbkpocjgaaGreatExactPartNewG06
import Derived.Test.YtnccenbkpocjgaaGreatExactPartNewG08
import Derived.Test.YtnccenbkpocjgaaGreatExactPartNewG12
/- The program's allFor. -/
namespace Go.Proofs.YtnccenbkpocjgaaGreat
open Go.RowKit Go.Shelf
attribute [local go_sem] Oper.semAt_some
end Go.Proofs.YtnccenbkpocjgaaGreat

/- The program's sentOk. -/
namespace Go.Proofs.YtnccenbkpocjgaaGreat
open Go.RowKit Go.Shelf
attribute [local go_sem] Oper.semAt_some
end Go.Proofs.YtnccenbkpocjgaaGreat

