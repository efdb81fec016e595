/- The specification's l1find and l1remove. -/
import Derived.Test.YteecpandpkicmaaCopies
import Derived.Test.YteecpandpkicmaaFind
import Derived.Test.YteecpandpkicmaaPure
import Derived.Deep.RegionLaw
namespace Go.Proofs.Yteecpandpkicmaa
open Go.RowKit

/- The first place of a tag. -/
end Go.Proofs.Yteecpandpkicmaa
