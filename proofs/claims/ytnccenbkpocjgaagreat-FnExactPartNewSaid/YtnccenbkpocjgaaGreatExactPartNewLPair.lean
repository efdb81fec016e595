/- The program's iterator over the neighbours of a list. -/
import Derived.Test.YtnccenbkpocjgaaGreatExactPartNewLEach
namespace Go.Proofs.YtnccenbkpocjgaaGreat
open Go.RowKit Go.Shelf
attribute [local go_sem] Oper.semAt_some
end Go.Proofs.YtnccenbkpocjgaaGreat
