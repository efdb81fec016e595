/- InsD -/
import Derived.Test.YtnccenbkpocjgaaGreatExactHearLInsD
import Derived.Test.YtnccenbkpocjgaaGreatExactHearG11
import Derived.Test.YtnccenbkpocjgaaGreatExactHearG04
import Derived.Test.YtnccenbkpocjgaaGreatExactHearG15
import Derived.Laws.AppendOwnNone
/- The specification's l1insert: the row that comes out is one's own. -/
namespace Go.Proofs.YtnccenbkpocjgaaGreat
open Go.RowKit
theorem rowE1 (w : World) : (w.alloc (.cells #[] 55)).drew.ownsRow w.heap.size 55 7 (.slice (some ⟨w.heap.size, 0, none⟩) 0 0) 0 [] := row_empty w
end Go.Proofs.YtnccenbkpocjgaaGreat
