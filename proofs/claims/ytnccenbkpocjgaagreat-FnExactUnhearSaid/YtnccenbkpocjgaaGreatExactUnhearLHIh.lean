/- HIh -/
import Derived.Test.YtnccenbkpocjgaaGreatExactUnhearG10
import Derived.Test.YtnccenbkpocjgaaGreatExactHearG22
import Derived.Test.YtnccenbkpocjgaaGreatExactHearG03
import Derived.Test.YtnccenbkpocjgaaGreatExactHearG24
import Derived.Test.YtnccenbkpocjgaaGreatExactUnhearG04
import Derived.Test.YtnccenbkpocjgaaGreatExactHearG26
import Derived.Test.YtnccenbkpocjgaaGreatExactHearG04
import Derived.Deep.RegionHeld3
import Derived.Sort.BigQuietIn
/- The program's Hear. -/
namespace Go.Proofs.YtnccenbkpocjgaaGreat
open Go.RowKit
theorem iPartOk_fix (x : Value) (p : Pa) (b : Bool) (hb : p.ok = b) (w : World) (hw : p.wt ≤ 1048576) (h : IsPart w x p) : Calls Tryz.prog 61 #[x] w fun r w' => r = .returned (.bool b) ∧ Below w.heap.size w w' := hb ▸ iPartOk_is x p w hw h
end Go.Proofs.YtnccenbkpocjgaaGreat
